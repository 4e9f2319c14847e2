/- The program reads an operation: readOp. -/
import Derived.Test.YtohmjfagbhnieaaGreatDoorZl17
import Derived.Test.YtohmjfagbhnieaaGreatDoorZl24
import Derived.Laws.BytesArg
import Derived.Deep.RegionHeld3
import Derived.Deep.MidRow
namespace Go.Proofs.YtohmjfagbhnieaaGreatDoor
set_option linter.unusedVariables false
set_option linter.unusedSimpArgs false
open Go.RowKit

/-- How far a reader came: m bytes asked for. -/
def AdvO (zs : List Int) (m : Nat) (okr : Bool) (pr : Nat) : Prop := (okr = true ↔ m ≤ zs.length) ∧ (okr = true → pr = m)
theorem AdvO.num {okr : Bool} {zs : List Int} {m pr : Nat} {w0 w w' : World} {b lo : Nat} {dv : Value} {m' x : Nat} (h : AdvO zs m okr pr) (hn : Numd w0 w w' b lo okr dv zs pr m' x) :
    ∃ ok2 p2, Rdr w0 w' b lo ok2 dv zs p2 ∧ AdvO zs (m + m') ok2 p2 ∧ (ok2 = true → x = unle ((zs.drop m).take m')) ∧ w.grownBy w' (some b) := by
  obtain ⟨hg, hn⟩ := hn
  obtain ⟨h2, h3⟩ := h
  rcases hn with ⟨ho, hle, hx, hr⟩ | ⟨hno, hx, hr⟩
  · have hpm := h3 ho
    subst hpm
    exact ⟨true, _, hr, ⟨⟨fun _ => hle, fun _ => rfl⟩, fun _ => rfl⟩, fun _ => hx, hg⟩
  · refine ⟨false, _, hr, ⟨⟨(fun h => absurd h (by decide)), fun h => ?_⟩, (fun h => absurd h (by decide))⟩, (fun h => absurd h (by decide)), hg⟩
    have ho := h2.2 (by omega)
    have hpm := h3 ho
    exact absurd ⟨ho, by omega⟩ hno
theorem AdvO.took {okr : Bool} {zs : List Int} {m pr : Nat} {w0 w w' : World} {b lo : Nat} {dv sv : Value} {n : Nat} (h : AdvO zs m okr pr) (hn : Took w0 w w' b lo okr dv zs pr n sv) :
    ∃ ok2 p2 ts, Rdr w0 w' b lo ok2 dv zs p2 ∧ AdvO zs (m + n) ok2 p2 ∧ Rd .u8 w0 sv ts ∧ ts.length ≤ n ∧ (ok2 = true → ts = (zs.drop m).take n) ∧ w.grownBy w' (some b) ∧ ts.length ≤ zs.length := by
  obtain ⟨hg, hn⟩ := hn
  obtain ⟨h2, h3⟩ := h
  rcases hn with ⟨ho, _, hle, hrd, hr⟩ | ⟨hno, rfl, hr⟩
  · have hpm := h3 ho
    subst hpm
    rw [Int.toNat_natCast] at hrd hr
    exact ⟨true, _, _, hr, ⟨⟨fun _ => by omega, fun _ => rfl⟩, fun _ => rfl⟩, hrd, by rw [List.length_take]; omega, fun _ => rfl, hg, by rw [List.length_take, List.length_drop]; omega⟩
  · refine ⟨false, _, [], hr, ⟨⟨(fun h => absurd h (by decide)), fun h => ?_⟩, (fun h => absurd h (by decide))⟩, ⟨none, 0, rfl, by simp, fun h => absurd rfl h, by simp, by simp⟩, by simp, (fun h => absurd h (by decide)), hg, by simp⟩
    have ho := h2.2 (by omega)
    have hpm := h3 ho
    exact absurd ⟨ho, by omega, by omega⟩ hno
theorem num_bd {w0 w w' : World} {b lo : Nat} {okr : Bool} {dv : Value} {zs : List Int} {pr m x : Nat} (hbd : ∀ z ∈ zs, 0 ≤ z ∧ z < 256) (hN : Numd w0 w w' b lo okr dv zs pr m x) : x < 256 ^ m := by
  rcases hN.2 with ⟨_, _, hx, _⟩ | ⟨_, hx, _⟩
  · have h1 := unle_lt ((zs.drop pr).take m) (fun z hz => hbd z (List.mem_of_mem_drop (List.mem_of_mem_take hz)))
    have h2 : ((zs.drop pr).take m).length ≤ m := by rw [List.length_take]; omega
    have h3 : 256 ^ ((zs.drop pr).take m).length ≤ 256 ^ m := Nat.pow_le_pow_right (by decide) h2
    rw [← hx] at h1
    omega
  · rw [hx]; exact Nat.pos_of_ne_zero (by simp)
theorem Flt.storeV {w : World} {lo g o : Nat} {y x : Value} (hy : w.cell? ⟨g, o, none⟩ = some y) (h0 : ∀ c, y ≠ .int .i64 c) (h1 : ∀ t z, y ≠ .iface t z) : ∀ {n : Nat} {v : Value} {c : Int}, Flt w lo n v c → Flt (w.setCell ⟨g, o, none⟩ x) lo n v c
  | 0, _, _, ⟨b, h, hl, hc⟩ => by
    refine ⟨b, h, hl, (World.cell?_setCell_other _ _ _ _ ?_).trans hc⟩
    intro e
    rw [e, hc] at hy
    exact h0 _ (Option.some.inj hy).symm
  | _ + 1, _, _, ⟨b, v', h, hl, hc, hr⟩ => by
    refine ⟨b, v', h, hl, (World.cell?_setCell_other _ _ _ _ ?_).trans hc, Flt.storeV hy h0 h1 hr⟩
    intro e
    rw [e, hc] at hy
    obtain ⟨t, z, rfl⟩ := hr.iface
    exact h1 _ _ (Option.some.inj hy).symm
theorem Rdr.storeV {w0 w : World} {b lo : Nat} {ok : Bool} {dv : Value} {zs : List Int} {pos g o : Nat} {y : Value} (x : Value) (h : Rdr w0 w b lo ok dv zs pos) (hg : b < g) (hy : w.cell? ⟨g, o, none⟩ = some y) (h0 : ∀ c, y ≠ .int .i64 c) (h1 : ∀ t z, y ≠ .iface t z) : Rdr w0 (w.setCell ⟨g, o, none⟩ x) b lo ok dv zs pos := by
  have hne2 : ∀ o', (⟨g, o, none⟩ : Addr) ≠ ⟨b, o', none⟩ := fun o' e => by injection e with e1 e2; omega
  have hc : ∀ o', (w.setCell ⟨g, o, none⟩ x).cell? ⟨b, o', none⟩ = w.cell? ⟨b, o', none⟩ := fun o' => World.cell?_setCell_other _ _ _ _ (hne2 o')
  obtain ⟨c1, c2, ev, c3, c4⟩ := h.ck
  refine ⟨⟨(hc 0).trans c1, by simpa using c2, ev, (hc 1).trans c3, ?_⟩, (hc 2).trans h.data, (hc 3).trans h.at_, by simpa using h.fr, h.old.setCell (p := ⟨g, o, none⟩) (Nat.le_of_lt hg) _, h.size, h.rd, h.le, h.lo1, by simpa using h.lo2⟩
  rcases c4 with c4 | ⟨c4, n, c5⟩
  · exact .inl c4
  · exact .inr ⟨c4, n, c5.storeV hy h0 h1⟩
/-- The reading of an operation so far. -/
structure Ro (W1 wr : World) (b lo : Nat) (dv : Value) (zs : List Int) (g : Nat) (C : Array Value) (okr : Bool) (pr : Nat) : Prop where
  rdr : Rdr W1 wr b lo okr dv zs pr
  blk : Blk wr g C 30
  lt : b < g
theorem Ro.onward {W1 wr w' : World} {b lo : Nat} {dv : Value} {zs : List Int} {g : Nat} {C : Array Value} {okr ok2 : Bool} {pr p2 : Nat} (h : Ro W1 wr b lo dv zs g C okr pr) (hr : Rdr W1 w' b lo ok2 dv zs p2) (hgr : wr.grownBy w' (some b)) : Ro W1 w' b lo dv zs g C ok2 p2 :=
  ⟨hr, (hgr.block _ h.blk.lt (by have := h.lt; simp; omega)).trans h.blk, h.lt⟩
theorem Ro.under {W1 wr w' : World} {b lo : Nat} {dv : Value} {zs : List Int} {g : Nat} {C : Array Value} {okr : Bool} {pr : Nat} (h : Ro W1 wr b lo dv zs g C okr pr) (hb : Below wr.heap.size wr w') : Ro W1 w' b lo dv zs g C okr pr :=
  ⟨h.rdr.below hb, h.blk.below hb h.blk.lt, h.lt⟩
theorem Ro.setI {W1 wr : World} {b lo : Nat} {dv : Value} {zs : List Int} {g : Nat} {C : Array Value} {okr : Bool} {pr : Nat} (h : Ro W1 wr b lo dv zs g C okr pr) (k : Nat) (x : Int) (hk : C[k]? = some (.int .i64 0)) : Ro W1 (wr.setCell ⟨g, k, none⟩ (.int .i64 x)) b lo dv zs g (C.setIfInBounds k (.int .i64 x)) okr pr :=
  ⟨h.rdr.storeC _ h.lt ((h.blk.cell k).trans hk) (by decide), h.blk.set k _, h.lt⟩
theorem Ro.setV {W1 wr : World} {b lo : Nat} {dv : Value} {zs : List Int} {g : Nat} {C : Array Value} {okr : Bool} {pr : Nat} (h : Ro W1 wr b lo dv zs g C okr pr) (k : Nat) (x y : Value) (hk : C[k]? = some y) (h0 : ∀ c, y ≠ .int .i64 c) (h1 : ∀ t z, y ≠ .iface t z) : Ro W1 (wr.setCell ⟨g, k, none⟩ x) b lo dv zs g (C.setIfInBounds k x) okr pr :=
  ⟨h.rdr.storeV _ h.lt ((h.blk.cell k).trans hk) h0 h1, h.blk.set k _, h.lt⟩
theorem conv_rdO {w : World} {v : Value} {xs : List Int} (h : Rd .u8 w v xs) : (convert 22 9 v).run Tryz.prog w = .ok (.string (strOfNums xs)) w := by
  obtain ⟨a, cap, rfl, hm, hc, h1, h2⟩ := h
  by_cases hne : xs = []
  · subst hne
    rw [run_convert_bytes_string w 22 9 5 _ _ cap Tryz.underlying22 Tryz.underlying5 Tryz.underlying9]
    cases a with
    | none => simp [Conv.bytesToString]; rfl
    | some ad =>
      exact run_bytesToString w ad 0 cap [] (by simpa using run_loadCells_list (P := Tryz.prog) w ad [] (by simp))
  · obtain ⟨b, off, rfl, _, hcell⟩ := hc hne
    exact run_convert_bytes_arg w 22 5 Tryz.underlying22 Tryz.underlying5 b off xs.length cap xs rfl hcell 9 Tryz.underlying9
theorem take_both (w0 w : World) (b lo : Nat) (ok : Bool) (dv : Value) (zs : List Int) (pos n : Nat) (h : Rdr w0 w b lo ok dv zs pos) (hp : ok = true → 0 < pos) (hn : n ≤ 4294967296) (hz : zs.length ≤ 140737488355328) :
    Calls Tryz.prog 64 #[.pointer (some ⟨b, 0, none⟩), .int .i64 n] w fun e w' => ∃ sv, e = .returned sv ∧ Took w0 w w' b lo ok dv zs pos n sv := by
  cases ok with
  | false => exact take_fail w0 w b lo dv zs pos n h hn hz
  | true => exact take_nn w0 w b lo true dv zs pos n _ rfl h (.inr (hp rfl)) hn hz
set_option maxRecDepth 100000 in
set_option maxHeartbeats 1000000 in
theorem zeros_fail (w0 w : World) (b lo : Nat) (dv : Value) (zs : List Int) (pos : Nat) (h : Rdr w0 w b lo false dv zs pos) (hz : zs.length ≤ 1048576) :
    Calls Tryz.prog 83 #[.pointer (some ⟨b, 0, none⟩), .int .i64 pos] w fun e w' => e = .returned (.tuple #[]) ∧ Rdr w0 w' b lo false dv zs pos ∧ w.grownBy w' (some b) := by
  have ha := h.at_
  have hl := h.le
  have H := hide h
  clear h
  go_enter Tryz.func83, Tryz.ntmps83
  go_wp2_with (go_at_call 64; fail)
  refine (take_fail w0 _ b lo dv zs pos 0 H.out (by omega) (by omega)).mono ?_
  rintro e w1 ⟨sv, rfl, hg, ht⟩
  rcases ht with ⟨hok, _⟩ | ⟨hno, rfl, hr⟩
  · cases hok
  have R1 := hide (And.intro hr hg)
  clear hr hg hno
  go_wp2
  refine wp_loop_rounds 1 ?_
  rw [rounds_succ]
  go_wp2
  go_end0
  exact ⟨rfl, R1.out.1, R1.out.2⟩
set_option maxRecDepth 100000 in
set_option maxHeartbeats 1000000 in
theorem end_fail (w0 w : World) (b lo : Nat) (dv : Value) (zs : List Int) (pos : Nat) (h : Rdr w0 w b lo false dv zs pos) (hz : zs.length ≤ 1048576) :
    Calls Tryz.prog 68 #[.pointer (some ⟨b, 0, none⟩), .int .i64 pos] w fun e w' => e = .returned (.tuple #[]) ∧ Rdr w0 w' b lo false dv zs pos ∧ w.grownBy w' (some b) := by
  have H := hide h
  have hl := h.le
  obtain ⟨a, cap, rfl⟩ : ∃ a cap, dv = .slice a zs.length cap := by obtain ⟨a, cap, h1, _⟩ := h.rd; exact ⟨a, cap, h1⟩
  clear h
  go_enter Tryz.func68, Tryz.ntmps68
  go_wp2_with fail
  refine (zeros_fail w0 _ b lo _ zs pos H.out hz).mono ?_
  rintro e w1 ⟨rfl, hr, hg⟩
  have HR := hide hr
  have HG := hide hg
  have hd1 := hr.data
  have ha1 := hr.at_
  have hlt1 := hr.ck.lt
  clear hr hg H
  go_wp2
  go_region_held (fun w' => w'.cell? ⟨b, 2, none⟩ = some (.slice a zs.length cap) ∧ w'.cell? ⟨b, 3, none⟩ = some (.int .i64 pos)) (go_keep) ((go_at_call 49; refine (need_any b lo _ 21 false _ _ (HR.out.ck.below ((Below.refl _ _).drew)) HR.out.lo1 HR.out.lo2).mono ?_; rintro e w2 ⟨rfl, hc2, ht2⟩; have hd2 := (ht2.2.1 2 (by omega)).trans hd1; have ha2 := (ht2.2.1 3 (by omega)).trans ha1))
  rw [Bool.false_and] at hc2
  have ht2' : Tch b w1 w2 := (Tch.of_below hlt1 ((Below.refl _ _).drew)).trans ht2
  have HW := hide (show Rdr w0 w2 b lo false (.slice a zs.length cap) zs pos ∧ w.grownBy w2 (some b) from ⟨HR.out.tch hc2 ht2', grownBy_trans HG.out ht2'.1⟩)
  clear hc2 ht2 ht2' hd2 ha2
  go_wp2
  go_end0
  exact ⟨rfl, HW.out.1, HW.out.2⟩
theorem end_here (w0 w : World) (b lo : Nat) (ok : Bool) (dv : Value) (zs : List Int) (pos : Nat) (h : Rdr w0 w b lo ok dv zs pos) (hp : ok = true → 0 < pos) (hz : zs.length ≤ 1048576) :
    Calls Tryz.prog 68 #[.pointer (some ⟨b, 0, none⟩), .int .i64 pos] w fun e w' => e = .returned (.tuple #[]) ∧ ∃ p, Rdr w0 w' b lo (ok && decide (zs.length = pos)) dv zs p ∧ w.grownBy w' (some b) := by
  cases ok with
  | false =>
    refine (end_fail w0 w b lo dv zs pos h hz).mono ?_
    rintro e w' ⟨rfl, hr, hg⟩
    exact ⟨rfl, pos, hr, hg⟩
  | true =>
    have hl := h.le
    refine (end_any w0 w b lo true dv zs pos pos h (Nat.le_refl _) (hp rfl) (by omega) (by omega)).mono ?_
    rintro e w' ⟨rfl, hg, p, hr⟩
    rw [Nat.sub_self, List.take_zero] at hr
    exact ⟨rfl, p, hr, hg⟩
set_option maxRecDepth 100000 in
set_option maxHeartbeats 1000000 in
theorem togB_any (g n c : Nat) (vs : List Value) (bs : List (List Int)) (w : World) (hcell : ∀ j v, vs[j]? = some v → w.cell? ⟨g, j, none⟩ = some v) (hall : AllRd w vs bs) (hn : bs.length = n) (hn2 : n ≤ 1000) (htot : bs.flatten.length ≤ 4000000) (hg : g < w.heap.size) :
    Calls Tryz.prog 28 #[.slice (some ⟨g, 0, none⟩) n c] w fun e w' => ∃ v', e = .returned v' ∧ w'.ownsRow w.heap.size 5 1 v' bs.flatten.length (bs.flatten.map (Value.int .u8)) ∧ Below w.heap.size w w' := by
  obtain ⟨i0, hi, hz0, hz1', hz2⟩ := info_parts infoU8
  have HC := hide (And.intro hcell (And.intro hall (And.intro hn htot)))
  have H0 := hide (World.ownsRow_nil w w.heap.size 5 1)
  have hb0 := hide (Below.refl w.heap.size w)
  clear hcell hall hn htot
  go_enter Tryz.func28, Tryz.ntmps28
  go_wp2
  go_loopw [3, 8] (fun o i wr => ∃ k : Nat, k ≤ n ∧ i = .int .i64 k ∧ wr.ownsRow w.heap.size 5 1 o (bs.take k).flatten.length ((bs.take k).flatten.map (Value.int .u8)) ∧ Below w.heap.size w wr) (fun _ i _ => n - (intOf i).toNat)
  case atStart => exact ⟨0, by omega, rfl, by simpa using H0.out, hb0.out⟩
  case round =>
    clear H0 hb0
    obtain ⟨k, hk, rfl, hown, hb⟩ := hrel
    have hsz := hb.size
    by_cases hlt : k < n
    · obtain ⟨v, hv, hr⟩ := HC.out.2.1.at k (by rw [HC.out.2.2.1]; exact hlt)
      have HT := hide (flatten_take bs k (by rw [HC.out.2.2.1]; exact hlt))
      have hle : (bs.take k).flatten.length + (bs.getD k []).length ≤ 4000000 := by
        have h1 := take_flat_len bs (k + 1)
        rw [HT.out, List.length_append] at h1
        have := HC.out.2.2.2
        omega
      have c1 : wr.cell? ⟨g, k, none⟩ = some v := (hb.cell (p := ⟨g, k, none⟩) hg).trans (HC.out.1 k v hv)
      generalize bs.getD k [] = z at hr HT hle
      by_cases hbk : 0 < z.length
      · obtain ⟨bd, off, cp, rfl, hbw, _, _, hcell3⟩ := (hr.below hb).partsC hbk
        have HX := hide (show ∀ (j : Nat) (u : Value), (z.map (Value.int .u8))[j]? = some u → wr.cell? ((⟨bd, off, none⟩ : Addr).add j) = some u from fun j u hj => by
          have hjl : j < z.length := by
            rcases Nat.lt_or_ge j z.length with h | h
            · exact h
            · rw [List.getElem?_eq_none (by simpa using h)] at hj; cases hj
          have ea : (⟨bd, off, none⟩ : Addr).add j = ⟨bd, off + j, none⟩ := by unfold Addr.add; split <;> simp_all
          rw [ea, hcell3 j hjl]
          rw [List.getElem?_map, List.getElem?_eq_getElem hjl] at hj
          simp at hj
          rw [← hj]
          simp [List.getD, hjl])
        have HO := hide (And.intro hown hb)
        clear hcell3 hr hown hb hv
        go_wp2_with (at_builtin; refine append_fresh _ rfl (.tmp 12) (.tmp 13) 22 rfl w.heap.size 5 i0 (.int .u8 0) 1 1 Tryz.underlying22 hi hz0 hz1' hz2 rfl (by decide) _ _ _ rfl HO.out.1 ⟨bd, off, none⟩ z.length cp (z.map (Value.int .u8)) rfl (by simp) HX.out (ints_oneCell _ _) hbk (by unfold maxLen; omega) (by omega) (by omega) ?_; intro v4 w4 o4 g4 f4)
        have HW := hide (show w4.ownsRow w.heap.size 5 1 v4 (bs.take (k + 1)).flatten.length ((bs.take (k + 1)).flatten.map (Value.int .u8)) ∧ Below w.heap.size w w4 from by
          refine ⟨?_, HO.out.2.grown g4 (by omega) (fun r h => (HO.out.1.lt r h).1)⟩
          rw [HT.out, List.map_append, List.length_append]
          exact o4)
        clear o4 g4 f4
        go_roundw
        case rel => exact ⟨k + 1, by omega, by go_num, HW.out.1, HW.out.2⟩
        case measure => simp [intOf]; omega
      · have hz : z = [] := List.eq_nil_of_length_eq_zero (by omega)
        subst hz
        obtain ⟨a3, c3, rfl⟩ : ∃ a3 c3, v = .slice a3 0 c3 := by obtain ⟨a3, c3, e3, _⟩ := hr; exact ⟨a3, c3, e3⟩
        have HO := hide (And.intro hown hb)
        clear hr hown hb hv
        go_wp2_with (at_builtin; refine wpList_append_emptyL rfl (.tmp 12) (.tmp 13) 22 rfl w.heap.size 5 i0 1 Tryz.underlying22 hi _ _ _ rfl HO.out.1 a3 c3 rfl ?_)
        have HW := hide (show wr.ownsRow w.heap.size 5 1 _ (bs.take (k + 1)).flatten.length ((bs.take (k + 1)).flatten.map (Value.int .u8)) ∧ Below w.heap.size w wr from by
          refine ⟨?_, HO.out.2⟩
          rw [HT.out, List.append_nil]
          exact HO.out.1)
        go_roundw
        case rel => exact ⟨k + 1, by omega, by go_num, HW.out.1, HW.out.2⟩
        case measure => simp [intOf]; omega
    · have HO := hide (And.intro hown hb)
      have e : k = n := by omega
      clear hown hb
      go_wp2
      go_ret
      have h2 := HO.out
      rw [List.take_of_length_le (by rw [HC.out.2.2.1]; omega)] at h2
      exact ⟨_, rfl, h2.1, h2.2⟩




theorem tog1_1 (v0 : Value) (b0 : List Int) (w : World) (h0 : Rd .u8 w v0 b0) (hl : b0.length ≤ 4000000) :
    Calls Tryz.prog 28 #[.slice (some ⟨w.heap.size, 0, none⟩) 1 1] (w.alloc (.cells #[v0] 22)) fun e w' => ∃ v', e = .returned v' ∧ w'.ownsRow w.heap.size 5 1 v' b0.length (b0.map (Value.int .u8)) ∧ Below w.heap.size w w' := by
  have bN := (Below.refl w.heap.size w).alloc (Nat.le_refl _) (.cells #[v0] 22)
  have he : ([b0] : List (List Int)).flatten = b0 := by simp
  have h := togB_any w.heap.size 1 1 [v0] [b0] (w.alloc (.cells #[v0] 22)) (fun j u hu => by
    rw [cell_of_row _ _ j _ _ _ (heap_alloc_new w _)]
    simpa using hu) ⟨h0.below bN, trivial⟩ rfl (by omega) (by rw [he]; exact hl) (by simp)
  rw [he] at h
  refine h.mono ?_
  rintro e w' ⟨v', rfl, ho, hb⟩
  exact ⟨v', rfl, own_mono ho (by simp), bN.trans (hb.mono (by simp))⟩
theorem Flt.rowO {w : World} {lo g : Nat} {t : TypeId} {cs C : Array Value} {c : Int} (hc21 : c = 21) (hB : Blk w g C t) (h0 : C[0]? = some (.int .i64 0)) (h1 : C[1]? = some (.int .i64 0)) : ∀ {n : Nat} {v : Value}, Flt w lo n v c → Flt (w.setRow g cs) lo n v c
  | 0, _, ⟨b, h, hl, hc⟩ => by
    refine ⟨b, h, hl, (World.cell?_of_block (a := ⟨b, 0, none⟩) (setRow_block w g cs b ?_)).trans hc⟩
    rintro rfl
    rw [hB.cell 0, h0] at hc
    have h1 : (Value.int .i64 0) = .int .i64 c := Option.some.inj hc
    injection h1 with _ h2
    omega
  | _ + 1, _, ⟨b, v', h, hl, hc, hr⟩ => by
    refine ⟨b, v', h, hl, (World.cell?_of_block (a := ⟨b, 1, none⟩) (setRow_block w g cs b ?_)).trans hc, Flt.rowO hc21 hB h0 h1 hr⟩
    rintro rfl
    rw [hB.cell 1, h1] at hc
    obtain ⟨_, _, h3⟩ := hr.iface
    rw [h3] at hc
    cases hc
theorem FaultIs.rowO {w : World} {lo g : Nat} {t : TypeId} {cs C : Array Value} {ok : Bool} {ev : Value} (hB : Blk w g C t) (h0 : C[0]? = some (.int .i64 0)) (h1 : C[1]? = some (.int .i64 0)) (h : FaultIs w lo ok ev 21) : FaultIs (w.setRow g cs) lo ok ev 21 := by
  rcases h with h | ⟨h, n, hn⟩
  · exact .inl h
  · exact .inr ⟨h, n, hn.rowO rfl hB h0 h1⟩
theorem blk_rangeO {w : World} {b : Nat} {t : TypeId} {C : Array Value} (h : Blk w b C t) : w.rangeAt b 0 C.toList := by
  intro j v hv
  rw [Nat.zero_add, h.cell j]
  simpa using hv
theorem own_rowO {w : World} {base : Nat} {e : TypeId} {v : Value} {n : Nat} {xs : List Value} (hr : w.ownsRow base e 1 v n xs) (g : Nat) (cs : Array Value) (hb : g < base) : (w.setRow g cs).ownsRow base e 1 v n xs := by
  rcases hr.2 with ⟨rfl, h0⟩ | ⟨k, cap, cur, rfl, h1, h2, h3⟩
  · exact ⟨hr.1, .inl ⟨rfl, h0⟩⟩
  · exact ⟨hr.1, .inr ⟨k, cap, cur, rfl, h1, (setRow_block w g cs k (by omega)).trans h2, h3⟩⟩
/-- What is known of what was read. -/
structure OpRd (zs : List Int) (x0 x1 x2 x3 x4 x5 : Nat) (ps : List Int) (x6 : Nat) (qs : List Int) (x7 : Nat) (ds : List Int) (okr : Bool) (pr : Nat) : Prop where
  adv : AdvO zs (29 + x5 + x6 + x7) okr pr
  e0 : 1 ≤ zs.length → x0 = unle ((zs.drop 0).take 1)
  e1 : 9 ≤ zs.length → x1 = unle ((zs.drop 1).take 8)
  e2 : 17 ≤ zs.length → x2 = unle ((zs.drop 9).take 8)
  e3 : 19 ≤ zs.length → x3 = unle ((zs.drop 17).take 2)
  e4 : 21 ≤ zs.length → x4 = unle ((zs.drop 19).take 2)
  e5 : 23 ≤ zs.length → x5 = unle ((zs.drop 21).take 2)
  ep : 23 + x5 ≤ zs.length → ps = (zs.drop 23).take x5
  e6 : 25 + x5 ≤ zs.length → x6 = unle ((zs.drop (23 + x5)).take 2)
  eq : 25 + x5 + x6 ≤ zs.length → qs = (zs.drop (25 + x5)).take x6
  e7 : 29 + x5 + x6 ≤ zs.length → x7 = unle ((zs.drop (25 + x5 + x6)).take 4)
  ed : 29 + x5 + x6 + x7 ≤ zs.length → ds = (zs.drop (29 + x5 + x6)).take x7
  bp : ps.length ≤ x5 ∧ x5 < 65536
  bq : qs.length ≤ x6 ∧ x6 < 65536
  bd : ds.length ≤ x7 ∧ x7 < 4294967296

set_option maxRecDepth 100000 in
set_option maxHeartbeats 8000000 in
theorem readOp_any (v : Value) (zs : List Int) (w : World) (h : Rd .u8 w v zs) (hbd : ∀ z ∈ zs, 0 ≤ z ∧ z < 256) (hz : zs.length ≤ 1048576) :
    Calls Tryz.prog 65 #[v] w fun e w' => ∃ (x0 x1 x2 x3 x4 x5 : Nat) (ps : List Int) (x6 : Nat) (qs : List Int) (x7 : Nat) (dv : Value) (ds : List Int) (okr : Bool) (pr : Nat) (ev : Value), e = .returned (.tuple #[.agg (opC (x0 : Int) (wrap64 (x1 : Int)) (wrap64 (x2 : Int)) (x3 : Int) (x4 : Int) (strOfNums ps) (strOfNums qs) dv), ev]) ∧ OpRd zs x0 x1 x2 x3 x4 x5 ps x6 qs x7 ds okr pr ∧ w'.ownsRow w.heap.size 5 1 dv ds.length (ds.map (Value.int .u8)) ∧ FaultIs w' w.heap.size (okr && decide (zs.length = pr) && rightO (x0 : Int) (x3 : Int) (x4 : Int) (strOfNums ps) (strOfNums qs) ds.length) ev 21 ∧ Below w.heap.size w w' := by
  have HB := hide hbd
  have hz2 : zs.length ≤ 140737488355328 := by omega
  have b0 : Below w.heap.size w (w.alloc (.cells #[.int .i64 0, .int .i64 0, .int .i64 0, .int .i64 0, .int .i64 0, .string ⟨#[]⟩, .string ⟨#[]⟩, .slice none 0 0] 30)) := (Below.refl _ _).alloc (Nat.le_refl _) _
  have K0 := hide (And.intro (Blk.new w #[.int .i64 0, .int .i64 0, .int .i64 0, .int .i64 0, .int .i64 0, .string ⟨#[]⟩, .string ⟨#[]⟩, .slice none 0 0] 30) (And.intro b0 (h.below b0)))
  have hb1 : (w.alloc (.cells #[.int .i64 0, .int .i64 0, .int .i64 0, .int .i64 0, .int .i64 0, .string ⟨#[]⟩, .string ⟨#[]⟩, .slice none 0 0] 30)).heap.size = w.heap.size + 1 := by simp
  obtain ⟨va, vc, rfl⟩ : ∃ a c, v = .slice a zs.length c := by obtain ⟨a, c, e, _⟩ := h; exact ⟨a, c, e⟩
  clear hbd h b0
  generalize hW1 : w.alloc (.cells #[.int .i64 0, .int .i64 0, .int .i64 0, .int .i64 0, .int .i64 0, .string ⟨#[]⟩, .string ⟨#[]⟩, .slice none 0 0] 30) = W1 at K0 hb1
  go_enter Tryz.func65, Tryz.ntmps65
  go_wp2_with (go_at_call 47; fail)
  try rw [hW1]
  clear hW1
  refine (newReader_any _ zs W1 K0.out.2.2).mono ?_
  rintro e w2 ⟨rfl, r2, b2⟩
  rw [hb1] at r2
  have G0 := hide (show Ro W1 (w2.alloc (.cells #[.int .i64 0, .int .i64 0, .int .i64 0, .int .i64 0, .int .i64 0, .string ⟨#[]⟩, .string ⟨#[]⟩, .slice none 0 0] 30)) (w.heap.size + 1) (w.heap.size + 1 + 1) (.slice va zs.length vc) zs w2.heap.size #[.int .i64 0, .int .i64 0, .int .i64 0, .int .i64 0, .int .i64 0, .string ⟨#[]⟩, .string ⟨#[]⟩, .slice none 0 0] true 0 from ⟨r2.alloc _, Blk.new _ _ _, r2.ck.lt⟩)
  have A0 := hide (show AdvO zs 0 true 0 from ⟨⟨fun _ => by omega, fun _ => rfl⟩, fun _ => rfl⟩)
  rw [hb1]
  generalize hg : w2.heap.size = g at G0
  clear r2 b2
  generalize hW2 : w2.alloc (.cells #[.int .i64 0, .int .i64 0, .int .i64 0, .int .i64 0, .int .i64 0, .string ⟨#[]⟩, .string ⟨#[]⟩, .slice none 0 0] 30) = w3 at G0
  go_wp2_with (go_at_call 67; fail)
  try rw [hg]
  try rw [hW2]
  clear hW2
  refine (number8_any W1 _ (w.heap.size + 1) (w.heap.size + 1 + 1) true _ zs 0 G0.out.rdr hz2 HB.out).mono ?_
  rintro e y0 ⟨x0, rfl, hN⟩
  obtain ⟨ok0, p0, r1, a1, v1, g1⟩ := AdvO.num A0.out hN
  have H1 := hide (G0.out.onward r1 g1)
  have A1 := hide (show AdvO zs 1 ok0 p0 from a1)
  have V0 := hide (show 1 ≤ zs.length → x0 = unle ((zs.drop 0).take 1) from fun h => v1 (a1.1.2 h))
  have cC := (H1.out.blk.cell 0).trans (show (#[.int .i64 0, .int .i64 0, .int .i64 0, .int .i64 0, .int .i64 0, .string ⟨#[]⟩, .string ⟨#[]⟩, .slice none 0 0] : Array Value)[0]? = some (.int .i64 0) from rfl)
  have fC := H1.out.blk.frozen 0
  have S0 := hide (show Ro W1 (y0.setCell ⟨g, 0, none⟩ (.int .i64 (x0 : Int))) (w.heap.size + 1) (w.heap.size + 1 + 1) _ zs g #[.int .i64 (x0 : Int), .int .i64 0, .int .i64 0, .int .i64 0, .int .i64 0, .string ⟨#[]⟩, .string ⟨#[]⟩, .slice none 0 0] ok0 p0 from H1.out.setI 0 _ rfl)
  clear r1 a1 v1 g1 hN H1 G0
  go_wp2_with (go_at_call 62; fail)
  clear cC fC
  refine (number64_any W1 _ (w.heap.size + 1) (w.heap.size + 1 + 1) ok0 _ zs p0 S0.out.rdr hz2 HB.out).mono ?_
  rintro e y1 ⟨x1, rfl, hN⟩
  obtain ⟨ok1, p1, r1, a1, v1, g1⟩ := AdvO.num A1.out hN
  have H1 := hide (S0.out.onward r1 g1)
  have A2 := hide (show AdvO zs 9 ok1 p1 from a1)
  have V1 := hide (show 9 ≤ zs.length → x1 = unle ((zs.drop 1).take 8) from fun h => v1 (a1.1.2 h))
  have cC := (H1.out.blk.cell 1).trans (show (#[.int .i64 (x0 : Int), .int .i64 0, .int .i64 0, .int .i64 0, .int .i64 0, .string ⟨#[]⟩, .string ⟨#[]⟩, .slice none 0 0] : Array Value)[1]? = some (.int .i64 0) from rfl)
  have fC := H1.out.blk.frozen 1
  have S1 := hide (show Ro W1 (y1.setCell ⟨g, 1, none⟩ (.int .i64 (wrap64 (x1 : Int)))) (w.heap.size + 1) (w.heap.size + 1 + 1) _ zs g #[.int .i64 (x0 : Int), .int .i64 (wrap64 (x1 : Int)), .int .i64 0, .int .i64 0, .int .i64 0, .string ⟨#[]⟩, .string ⟨#[]⟩, .slice none 0 0] ok1 p1 from H1.out.setI 1 _ rfl)
  clear r1 a1 v1 g1 hN H1 S0
  go_wp2_with (go_at_call 62; fail)
  clear cC fC
  refine (number64_any W1 _ (w.heap.size + 1) (w.heap.size + 1 + 1) ok1 _ zs p1 S1.out.rdr hz2 HB.out).mono ?_
  rintro e y2 ⟨x2, rfl, hN⟩
  obtain ⟨ok2, p2, r1, a1, v1, g1⟩ := AdvO.num A2.out hN
  have H1 := hide (S1.out.onward r1 g1)
  have A3 := hide (show AdvO zs 17 ok2 p2 from a1)
  have V2 := hide (show 17 ≤ zs.length → x2 = unle ((zs.drop 9).take 8) from fun h => v1 (a1.1.2 h))
  have cC := (H1.out.blk.cell 2).trans (show (#[.int .i64 (x0 : Int), .int .i64 (wrap64 (x1 : Int)), .int .i64 0, .int .i64 0, .int .i64 0, .string ⟨#[]⟩, .string ⟨#[]⟩, .slice none 0 0] : Array Value)[2]? = some (.int .i64 0) from rfl)
  have fC := H1.out.blk.frozen 2
  have S2 := hide (show Ro W1 (y2.setCell ⟨g, 2, none⟩ (.int .i64 (wrap64 (x2 : Int)))) (w.heap.size + 1) (w.heap.size + 1 + 1) _ zs g #[.int .i64 (x0 : Int), .int .i64 (wrap64 (x1 : Int)), .int .i64 (wrap64 (x2 : Int)), .int .i64 0, .int .i64 0, .string ⟨#[]⟩, .string ⟨#[]⟩, .slice none 0 0] ok2 p2 from H1.out.setI 2 _ rfl)
  clear r1 a1 v1 g1 hN H1 S1
  go_wp2_with (go_at_call 81; fail)
  clear cC fC
  refine (number16_any W1 _ (w.heap.size + 1) (w.heap.size + 1 + 1) ok2 _ zs p2 S2.out.rdr hz2 HB.out).mono ?_
  rintro e y3 ⟨x3, rfl, hN⟩
  obtain ⟨ok3, p3, r1, a1, v1, g1⟩ := AdvO.num A3.out hN
  have H1 := hide (S2.out.onward r1 g1)
  have A4 := hide (show AdvO zs 19 ok3 p3 from a1)
  have V3 := hide (show 19 ≤ zs.length → x3 = unle ((zs.drop 17).take 2) from fun h => v1 (a1.1.2 h))
  have cC := (H1.out.blk.cell 3).trans (show (#[.int .i64 (x0 : Int), .int .i64 (wrap64 (x1 : Int)), .int .i64 (wrap64 (x2 : Int)), .int .i64 0, .int .i64 0, .string ⟨#[]⟩, .string ⟨#[]⟩, .slice none 0 0] : Array Value)[3]? = some (.int .i64 0) from rfl)
  have fC := H1.out.blk.frozen 3
  have S3 := hide (show Ro W1 (y3.setCell ⟨g, 3, none⟩ (.int .i64 (x3 : Int))) (w.heap.size + 1) (w.heap.size + 1 + 1) _ zs g #[.int .i64 (x0 : Int), .int .i64 (wrap64 (x1 : Int)), .int .i64 (wrap64 (x2 : Int)), .int .i64 (x3 : Int), .int .i64 0, .string ⟨#[]⟩, .string ⟨#[]⟩, .slice none 0 0] ok3 p3 from H1.out.setI 3 _ rfl)
  clear r1 a1 v1 g1 hN H1 S2
  go_wp2_with (go_at_call 81; fail)
  clear cC fC
  refine (number16_any W1 _ (w.heap.size + 1) (w.heap.size + 1 + 1) ok3 _ zs p3 S3.out.rdr hz2 HB.out).mono ?_
  rintro e y4 ⟨x4, rfl, hN⟩
  obtain ⟨ok4, p4, r1, a1, v1, g1⟩ := AdvO.num A4.out hN
  have H1 := hide (S3.out.onward r1 g1)
  have A5 := hide (show AdvO zs 21 ok4 p4 from a1)
  have V4 := hide (show 21 ≤ zs.length → x4 = unle ((zs.drop 19).take 2) from fun h => v1 (a1.1.2 h))
  have cC := (H1.out.blk.cell 4).trans (show (#[.int .i64 (x0 : Int), .int .i64 (wrap64 (x1 : Int)), .int .i64 (wrap64 (x2 : Int)), .int .i64 (x3 : Int), .int .i64 0, .string ⟨#[]⟩, .string ⟨#[]⟩, .slice none 0 0] : Array Value)[4]? = some (.int .i64 0) from rfl)
  have fC := H1.out.blk.frozen 4
  have S4 := hide (show Ro W1 (y4.setCell ⟨g, 4, none⟩ (.int .i64 (x4 : Int))) (w.heap.size + 1) (w.heap.size + 1 + 1) _ zs g #[.int .i64 (x0 : Int), .int .i64 (wrap64 (x1 : Int)), .int .i64 (wrap64 (x2 : Int)), .int .i64 (x3 : Int), .int .i64 (x4 : Int), .string ⟨#[]⟩, .string ⟨#[]⟩, .slice none 0 0] ok4 p4 from H1.out.setI 4 _ rfl)
  clear r1 a1 v1 g1 hN H1 S3
  go_wp2_with (go_at_call 81; fail)
  clear cC fC
  skip
  refine (number16_any W1 _ (w.heap.size + 1) (w.heap.size + 1 + 1) ok4 _ zs p4 S4.out.rdr hz2 HB.out).mono ?_
  rintro e y5 ⟨x5, rfl, hN⟩
  have hx5 : x5 < 65536 := num_bd HB.out hN
  obtain ⟨ok5, p5, r1, a1, v1, g1⟩ := AdvO.num A5.out hN
  have S5 := hide (S4.out.onward r1 g1)
  have A5n := hide (show AdvO zs (21 + 2) ok5 p5 from a1)
  have V5 := hide (show 21 + 2 ≤ zs.length → x5 = unle ((zs.drop (21)).take 2) from fun h => v1 (a1.1.2 h))
  have HT := hide (take_both W1 _ (w.heap.size + 1) (w.heap.size + 1 + 1) ok5 _ zs p5 x5 S5.out.rdr (fun h => by have := a1.2 h; omega) (by omega) hz2)
  clear r1 a1 v1 g1 hN S4
  go_wp2_with (go_at_call 64; fail)
  refine HT.out.mono ?_
  rintro e z5 ⟨sv, rfl, ht⟩
  obtain ⟨ok5t, p5t, ps, r3, a3, rd3, hl5, v3, g3, hdz⟩ := AdvO.took A5n.out ht
  have H3 := hide (S5.out.onward r3 g3)
  have A5t := hide (show AdvO zs (21 + 2 + x5) ok5t p5t from a3)
  have W5 := hide (show 21 + 2 + x5 ≤ zs.length → ps = (zs.drop (21 + 2)).take x5 from fun h => v3 (a3.1.2 h))
  have hcv := conv_rdO (r3.lift rd3)
  have cC := (H3.out.blk.cell 5).trans (show (#[.int .i64 (x0 : Int), .int .i64 (wrap64 (x1 : Int)), .int .i64 (wrap64 (x2 : Int)), .int .i64 (x3 : Int), .int .i64 (x4 : Int), .string ⟨#[]⟩, .string ⟨#[]⟩, .slice none 0 0] : Array Value)[5]? = some (.string ⟨#[]⟩) from rfl)
  have fC := H3.out.blk.frozen 5
  have S5t := hide (show Ro W1 (z5.setCell ⟨g, 5, none⟩ (.string (strOfNums ps))) (w.heap.size + 1) (w.heap.size + 1 + 1) _ zs g #[.int .i64 (x0 : Int), .int .i64 (wrap64 (x1 : Int)), .int .i64 (wrap64 (x2 : Int)), .int .i64 (x3 : Int), .int .i64 (x4 : Int), .string (strOfNums ps), .string ⟨#[]⟩, .slice none 0 0] ok5t p5t from H3.out.setV 5 _ _ rfl (fun c h => by cases h) (fun t z h => by cases h))
  clear r3 a3 rd3 v3 g3 ht H3 S5 HT hdz
  go_wp2_with (go_at_call 81; fail)
  clear cC fC
  clear hcv
  refine (number16_any W1 _ (w.heap.size + 1) (w.heap.size + 1 + 1) ok5t _ zs p5t S5t.out.rdr hz2 HB.out).mono ?_
  rintro e y6 ⟨x6, rfl, hN⟩
  have hx6 : x6 < 65536 := num_bd HB.out hN
  obtain ⟨ok6, p6, r1, a1, v1, g1⟩ := AdvO.num A5t.out hN
  have S6 := hide (S5t.out.onward r1 g1)
  have A6n := hide (show AdvO zs (21 + 2 + x5 + 2) ok6 p6 from a1)
  have V6 := hide (show 21 + 2 + x5 + 2 ≤ zs.length → x6 = unle ((zs.drop (21 + 2 + x5)).take 2) from fun h => v1 (a1.1.2 h))
  have HT := hide (take_both W1 _ (w.heap.size + 1) (w.heap.size + 1 + 1) ok6 _ zs p6 x6 S6.out.rdr (fun h => by have := a1.2 h; omega) (by omega) hz2)
  clear r1 a1 v1 g1 hN S5t
  go_wp2_with (go_at_call 64; fail)
  refine HT.out.mono ?_
  rintro e z6 ⟨sv, rfl, ht⟩
  obtain ⟨ok6t, p6t, qs, r3, a3, rd3, hl6, v3, g3, hdz⟩ := AdvO.took A6n.out ht
  have H3 := hide (S6.out.onward r3 g3)
  have A6t := hide (show AdvO zs (21 + 2 + x5 + 2 + x6) ok6t p6t from a3)
  have W6 := hide (show 21 + 2 + x5 + 2 + x6 ≤ zs.length → qs = (zs.drop (21 + 2 + x5 + 2)).take x6 from fun h => v3 (a3.1.2 h))
  have hcv := conv_rdO (r3.lift rd3)
  have cC := (H3.out.blk.cell 6).trans (show (#[.int .i64 (x0 : Int), .int .i64 (wrap64 (x1 : Int)), .int .i64 (wrap64 (x2 : Int)), .int .i64 (x3 : Int), .int .i64 (x4 : Int), .string (strOfNums ps), .string ⟨#[]⟩, .slice none 0 0] : Array Value)[6]? = some (.string ⟨#[]⟩) from rfl)
  have fC := H3.out.blk.frozen 6
  have S6t := hide (show Ro W1 (z6.setCell ⟨g, 6, none⟩ (.string (strOfNums qs))) (w.heap.size + 1) (w.heap.size + 1 + 1) _ zs g #[.int .i64 (x0 : Int), .int .i64 (wrap64 (x1 : Int)), .int .i64 (wrap64 (x2 : Int)), .int .i64 (x3 : Int), .int .i64 (x4 : Int), .string (strOfNums ps), .string (strOfNums qs), .slice none 0 0] ok6t p6t from H3.out.setV 6 _ _ rfl (fun c h => by cases h) (fun t z h => by cases h))
  clear r3 a3 rd3 v3 g3 ht H3 S6 HT hdz
  go_wp2_with (go_at_call 63; fail)
  clear cC fC hcv
  refine (number32_any W1 _ (w.heap.size + 1) (w.heap.size + 1 + 1) ok6t _ zs p6t S6t.out.rdr hz2 HB.out).mono ?_
  rintro e y7 ⟨x7, rfl, hN⟩
  have hx7 : x7 < 4294967296 := num_bd HB.out hN
  obtain ⟨ok7, p7, r1, a1, v1, g1⟩ := AdvO.num A6t.out hN
  have S7 := hide (S6t.out.onward r1 g1)
  have A7n := hide (show AdvO zs (21 + 2 + x5 + 2 + x6 + 4) ok7 p7 from a1)
  have V7 := hide (show 21 + 2 + x5 + 2 + x6 + 4 ≤ zs.length → x7 = unle ((zs.drop (21 + 2 + x5 + 2 + x6)).take 4) from fun h => v1 (a1.1.2 h))
  have HT := hide (take_both W1 _ (w.heap.size + 1) (w.heap.size + 1 + 1) ok7 _ zs p7 x7 S7.out.rdr (fun h => by have := a1.2 h; omega) (by omega) hz2)
  clear r1 a1 v1 g1 hN S6t
  go_wp2_with (go_at_call 64; fail)
  refine HT.out.mono ?_
  rintro e z7 ⟨sv, rfl, ht⟩
  obtain ⟨ok7t, p7t, ds, r3, a3, rd3, hl7, v3, g3, hdl⟩ := AdvO.took A7n.out ht
  have H3 := hide (S7.out.onward r3 g3)
  have A7t := hide (show AdvO zs (21 + 2 + x5 + 2 + x6 + 4 + x7) ok7t p7t from a3)
  have W7 := hide (show 21 + 2 + x5 + 2 + x6 + 4 + x7 ≤ zs.length → ds = (zs.drop (21 + 2 + x5 + 2 + x6 + 4)).take x7 from fun h => v3 (a3.1.2 h))
  have RD7 := hide (r3.lift rd3)
  obtain ⟨sa, sc, rfl⟩ : ∃ a c, sv = .slice a ds.length c := by obtain ⟨a, c, e, _⟩ := rd3; exact ⟨a, c, e⟩
  clear r3 a3 rd3 v3 g3 ht S7 HT
  go_wp2_with (go_at_call 28; fail)
  refine (tog1_1 _ ds _ RD7.out (by omega)).mono ?_
  rintro e w8 ⟨v7, rfl, o7, b7⟩
  obtain ⟨a7, c7, rfl⟩ : ∃ a c, v7 = .slice a ds.length c := by obtain ⟨a, c, e, _⟩ := Rd.own o7; exact ⟨a, c, e⟩
  have H8 := hide (H3.out.under b7)
  have hgz : g < z7.heap.size := H3.out.blk.lt
  have cC := (H8.out.blk.cell 7).trans (show (#[.int .i64 (x0 : Int), .int .i64 (wrap64 (x1 : Int)), .int .i64 (wrap64 (x2 : Int)), .int .i64 (x3 : Int), .int .i64 (x4 : Int), .string (strOfNums ps), .string (strOfNums qs), .slice none 0 0] : Array Value)[7]? = some (.slice none 0 0) from rfl)
  have fC := H8.out.blk.frozen 7
  have S8 := hide (show Ro W1 (w8.setCell ⟨g, 7, none⟩ (.slice a7 ds.length c7)) (w.heap.size + 1) (w.heap.size + 1 + 1) _ zs g #[.int .i64 (x0 : Int), .int .i64 (wrap64 (x1 : Int)), .int .i64 (wrap64 (x2 : Int)), .int .i64 (x3 : Int), .int .i64 (x4 : Int), .string (strOfNums ps), .string (strOfNums qs), .slice a7 ds.length c7] ok7t p7t from H8.out.setV 7 _ _ rfl (fun c h => by cases h) (fun t z h => by cases h))
  have O8 := hide (show (w8.setCell ⟨g, 7, none⟩ (.slice a7 ds.length c7)).ownsRow z7.heap.size 5 1 (.slice a7 ds.length c7) ds.length (ds.map (Value.int .u8)) from own_asideO o7 _ _ (by show g < z7.heap.size; exact hgz))
  have HRD := hide (show OpRd zs x0 x1 x2 x3 x4 x5 ps x6 qs x7 ds ok7t p7t from
    ⟨by have := A7t.out; rw [show 21 + 2 + x5 + 2 + x6 + 4 + x7 = 29 + x5 + x6 + x7 from by omega] at this; exact this, V0.out, V1.out, V2.out, V3.out, V4.out, V5.out, W5.out, fun h => (V6.out (by omega)).trans (by rw [show 21 + 2 + x5 = 23 + x5 from by omega]), fun h => (W6.out (by omega)).trans (by rw [show 21 + 2 + x5 + 2 = 25 + x5 from by omega]), fun h => (V7.out (by omega)).trans (by rw [show 21 + 2 + x5 + 2 + x6 = 25 + x5 + x6 from by omega]), fun h => (W7.out (by omega)).trans (by rw [show 21 + 2 + x5 + 2 + x6 + 4 = 29 + x5 + x6 from by omega]), ⟨hl5, hx5⟩, ⟨hl6, hx6⟩, ⟨hl7, hx7⟩⟩)
  have hpos : ok7t = true → 0 < p7t := fun h => by have := A7t.out.2 h; omega
  clear o7 b7 H3 H8 RD7 A0 A1 A2 A3 A4 A5 A5n A5t A6n A6t A7n A7t V0 V1 V2 V3 V4 V5 V6 V7 W5 W6 W7
  have hxp : (strOfNums ps).size ≤ maxLen ∧ (strOfNums qs).size ≤ maxLen ∧ ds.length ≤ maxLen := by rw [strOfNums_size, strOfNums_size]; unfold maxLen; omega
  have HFF := hide (show ∀ w : World, Calls Tryz.prog 41 #[.agg #[.int .i64 (x0 : Int), .int .i64 (wrap64 (x1 : Int)), .int .i64 (wrap64 (x2 : Int)), .int .i64 (x3 : Int), .int .i64 (x4 : Int), .string (strOfNums ps), .string (strOfNums qs), .slice a7 ds.length c7], .int .i64 21] w fun e w' => ∃ ev', e = .returned ev' ∧ FaultIs w' w.heap.size (rightO (x0 : Int) (x3 : Int) (x4 : Int) (strOfNums ps) (strOfNums qs) ds.length) ev' 21 ∧ Below w.heap.size w w' from fun w => opFault_any (x0 : Int) (wrap64 (x1 : Int)) (wrap64 (x2 : Int)) (x3 : Int) (x4 : Int) (strOfNums ps) (strOfNums qs) a7 ds.length c7 21 w hxp.1 hxp.2.1 hxp.2.2)
  obtain ⟨C, hC⟩ : ∃ C : Array Value, C = #[.int .i64 (x0 : Int), .int .i64 (wrap64 (x1 : Int)), .int .i64 (wrap64 (x2 : Int)), .int .i64 (x3 : Int), .int .i64 (x4 : Int), .string (strOfNums ps), .string (strOfNums qs), .slice a7 ds.length c7] := ⟨_, rfl⟩
  have HC := hide hC
  have HZ := hide (show C.size = 8 from by rw [hC]; rfl)
  have HC1 := hide (show C.all (·.oneCell') = true from by rw [hC, Array.all_eq_true_iff_forall_mem]; intro v hv; simp only [List.mem_toArray, List.mem_cons, List.not_mem_nil, or_false] at hv; rcases hv with rfl | rfl | rfl | rfl | rfl | rfl | rfl | rfl <;> rfl)
  have HO8 := hide (show Blk (w8.setCell ⟨g, 7, none⟩ (.slice a7 ds.length c7)) w.heap.size #[.int .i64 0, .int .i64 0, .int .i64 0, .int .i64 0, .int .i64 0, .string ⟨#[]⟩, .string ⟨#[]⟩, .slice none 0 0] 30 ∧ Below w.heap.size w (w8.setCell ⟨g, 7, none⟩ (.slice a7 ds.length c7)) from ⟨K0.out.1.below S8.out.rdr.old (by omega), K0.out.2.1.trans (S8.out.rdr.old.mono (by omega))⟩)
  have ha8 := S8.out.rdr.at_
  have hne : g ≠ w.heap.size + 1 := by have := S8.out.lt; omega
  rw [← hC] at HFF S8
  clear hC hxp
  obtain ⟨RF, hRF⟩ : ∃ RF, RF = rightO (x0 : Int) (x3 : Int) (x4 : Int) (strOfNums ps) (strOfNums qs) ds.length := ⟨_, rfl⟩
  rw [← hRF] at HFF
  have HRF := hide hRF
  clear hRF
  go_wp2_with (go_at_call 68; fail)
  generalize hw9 : w8.setCell ⟨g, 7, none⟩ (.slice a7 ds.length c7) = w9 at S8 O8 HO8 ⊢
  clear cC fC hw9 ha8
  refine (end_here W1 w9 _ _ ok7t _ zs p7t S8.out.rdr hpos hz).mono ?_
  rintro e w4 ⟨rfl, p4, r4, g4⟩
  have hs4 := g4.size
  have hglt := S8.out.blk.lt
  have hbg := S8.out.lt
  have kr4 : Blk w4 g C 30 := (g4.block _ hglt (by simp; omega)).trans S8.out.blk
  have ki4 : Blk w4 w.heap.size #[.int .i64 0, .int .i64 0, .int .i64 0, .int .i64 0, .int .i64 0, .string ⟨#[]⟩, .string ⟨#[]⟩, .slice none 0 0] 30 := (g4.block _ (by omega) (by simp)).trans HO8.out.1
  have o4 := O8.out.kept g4 (by
    cases hv : (Value.slice a7 ds.length c7).ownBlock with
    | none => exact .inl rfl
    | some k => exact .inr (fun e => by have := (O8.out.lt k hv).1; injection e with e; omega))
  have H4 := hide (And.intro r4 (And.intro ki4 (And.intro (HO8.out.2.grown g4 (by omega) (fun k e => by cases e; omega)) kr4)))
  have O4 := hide o4
  clear r4 ki4 kr4 g4 o4 S8 HO8 O8
  have hl4 : g < w4.heap.size := by omega
  have hl5 : w.heap.size + 1 < w4.heap.size := by omega
  go_wp2_with fail
  refine wp_region_noPanic ?_
  refine wp_region_held_drew (S := fun w' => Blk w' g C 30 ∧ w'.cell? ⟨w.heap.size + 1, 0, none⟩ = some (.int .i64 21)) (by kernel_rfl) ⟨H4.out.2.2.2, H4.out.1.ck.1⟩ (fun hH => ?_)
  refine wpAnyH_take (i := 0) (oi := _) (v := (.pointer (some ⟨w.heap.size + 1, 0, none⟩))) rfl (by kernel_rfl) (by kernel_rfl) (by kernel_rfl) (fun _ _ _ h => h) (Or.inl ⟨by rfl, fun w' hw' => by go_simp⟩) hH ?_
  try simp only [Act.put, List.getElem_toArray, List.getElem_cons_zero, List.getElem_cons_succ, List.setIfInBounds_toArray, List.set_cons_zero, List.set_cons_succ]
  refine wpAnyH_take (i := 1) (oi := _) (v := (.pointer (some ⟨w.heap.size + 1, 0, none⟩))) rfl (by kernel_rfl) (by kernel_rfl) (by kernel_rfl) (fun _ _ _ h => h) (Or.inl ⟨by rfl, fun w' hw' => by go_simp⟩) hH ?_
  try simp only [Act.put, List.getElem_toArray, List.getElem_cons_zero, List.getElem_cons_succ, List.setIfInBounds_toArray, List.set_cons_zero, List.set_cons_succ]
  refine wpAnyH_take (i := 2) (oi := _) (v := (.pointer (some ⟨w.heap.size + 1, 0, none⟩))) rfl (by kernel_rfl) (by kernel_rfl) (by kernel_rfl) (fun _ _ _ h => h) (Or.inl ⟨by rfl, fun w' hw' => by go_simp⟩) hH ?_
  try simp only [Act.put, List.getElem_toArray, List.getElem_cons_zero, List.getElem_cons_succ, List.setIfInBounds_toArray, List.set_cons_zero, List.set_cons_succ]
  refine wpAnyH_take (i := 3) (oi := _) (v := .agg C) rfl (by kernel_rfl) (by kernel_rfl) (by kernel_rfl) (fun _ _ _ h => h) (yieldsIf_load_mid (by rfl) 30 _ rfl g 0 rfl C.toList _ (fun w' h => blk_rangeO h.1) Tryz.underlying30 rfl (by rw [Array.length_toList, HZ.out]; exact infoO8)) hH ?_
  try simp only [Act.put, List.getElem_toArray, List.getElem_cons_zero, List.getElem_cons_succ, List.setIfInBounds_toArray, List.set_cons_zero, List.set_cons_succ]
  refine wpAnyH_take (i := 4) (oi := _) (v := (.pointer (some ⟨w.heap.size + 1, 0, none⟩))) rfl (by kernel_rfl) (by kernel_rfl) (by kernel_rfl) (fun _ _ _ h => h) (Or.inl ⟨by rfl, fun w' hw' => by go_simp⟩) hH ?_
  try simp only [Act.put, List.getElem_toArray, List.getElem_cons_zero, List.getElem_cons_succ, List.setIfInBounds_toArray, List.set_cons_zero, List.set_cons_succ]
  refine wpAnyH_take (i := 5) (oi := _) (v := (.pointer (some ⟨w.heap.size + 1, 0, none⟩))) rfl (by kernel_rfl) (by kernel_rfl) (by kernel_rfl) (fun _ _ _ h => h) (Or.inl ⟨by rfl, fun w' hw' => by go_simp⟩) hH ?_
  try simp only [Act.put, List.getElem_toArray, List.getElem_cons_zero, List.getElem_cons_succ, List.setIfInBounds_toArray, List.set_cons_zero, List.set_cons_succ]
  refine wpAnyH_take (i := 6) (oi := _) (v := (.pointer (some ⟨w.heap.size + 1, 0, none⟩))) rfl (by kernel_rfl) (by kernel_rfl) (by kernel_rfl) (fun _ _ _ h => h) (Or.inl ⟨by rfl, fun w' hw' => by go_simp⟩) hH ?_
  try simp only [Act.put, List.getElem_toArray, List.getElem_cons_zero, List.getElem_cons_succ, List.setIfInBounds_toArray, List.set_cons_zero, List.set_cons_succ]
  refine wpAnyH_take (i := 7) (oi := _) (v := (.pointer (some ⟨w.heap.size + 1, 0, none⟩))) rfl (by kernel_rfl) (by kernel_rfl) (by kernel_rfl) (fun _ _ _ h => h) (Or.inl ⟨by rfl, fun w' hw' => by go_simp⟩) hH ?_
  try simp only [Act.put, List.getElem_toArray, List.getElem_cons_zero, List.getElem_cons_succ, List.setIfInBounds_toArray, List.set_cons_zero, List.set_cons_succ]
  refine wpAnyH_take (i := 8) (oi := _) (v := .int .i64 21) rfl (by kernel_rfl) (by kernel_rfl) (by kernel_rfl) (fun _ _ _ h => h) (Or.inl ⟨by rfl, fun w' hw' => by have hc := hw'.2; clear hw'; go_simp⟩) hH ?_
  try simp only [Act.put, List.getElem_toArray, List.getElem_cons_zero, List.getElem_cons_succ, List.setIfInBounds_toArray, List.set_cons_zero, List.set_cons_succ]
  refine wpAnyH_ready (rs := [9]) (by kernel_rfl) (by simp) ?_
  refine AllReadyH.cons (o := _) rfl (fun K hK => ?_) AllReadyH.nil
  go_simp
  refine (HFF.out _).mono ?_
  rintro e w5 ⟨ev, rfl, hf5, b5⟩
  have s5 : Blk w5 g C 30 ∧ w5.cell? ⟨w.heap.size + 1, 0, none⟩ = some (.int .i64 21) := ⟨Blk.below (w := w4.drew) H4.out.2.2.2 b5 hl4, (b5.cell (p := ⟨w.heap.size + 1, 0, none⟩) hl5).trans H4.out.1.ck.1⟩
  have ck5 := H4.out.1.ck.below (((Below.refl _ _).drew).trans b5)
  have ki5 : Blk w5 w.heap.size #[.int .i64 0, .int .i64 0, .int .i64 0, .int .i64 0, .int .i64 0, .string ⟨#[]⟩, .string ⟨#[]⟩, .slice none 0 0] 30 := Blk.below (w := w4.drew) H4.out.2.1 b5 (by show w.heap.size < w4.heap.size; omega)
  have B5 := hide (H4.out.2.2.1.trans ((((Below.refl _ _).drew).trans b5).mono (by show w.heap.size ≤ w4.heap.size; omega)))
  have O5 := hide (own_below (own_below O4.out ((Below.refl _ w4).drew)) b5)
  have F5 := hide (hf5.mono (show w.heap.size + 1 + 1 ≤ w4.heap.size by omega))
  have hs5 : w4.heap.size ≤ w5.heap.size := b5.size
  have C5 := hide (And.intro ck5 (And.intro ki5 s5))
  clear hf5 b5 ck5 ki5 O4
  refine hK.out _ _ s5 (fun hH5 => ?_)
  clear hK K hH s5
  try simp only [Act.put, List.getElem_toArray, List.getElem_cons_zero, List.getElem_cons_succ, List.setIfInBounds_toArray, List.set_cons_zero, List.set_cons_succ]
  refine wpAnyH_ready (rs := [10]) (by kernel_rfl) (by simp) ?_
  refine AllReadyH.cons (o := _) rfl (fun K hK => ?_) AllReadyH.nil
  go_simp
  refine (inside_both (w.heap.size + 1) (w.heap.size + 1 + 1) _ 21 _ _ ev _ C5.out.1 F5.out (by omega) (by omega)).mono ?_
  rintro e w6 ⟨rfl, hc6, ht6⟩
  have hs6 := ht6.1.size
  have s6 : Blk w6 g C 30 := (ht6.1.block _ (by omega) (by simp; omega)).trans C5.out.2.2.1
  have ki6 : Blk w6 w.heap.size #[.int .i64 0, .int .i64 0, .int .i64 0, .int .i64 0, .int .i64 0, .string ⟨#[]⟩, .string ⟨#[]⟩, .slice none 0 0] 30 := (ht6.1.block _ (by omega) (by simp)).trans C5.out.2.1
  have B6 := hide (B5.out.grown ht6.1 (by omega) (fun k e => by cases e; omega))
  have O6 := hide (O5.out.kept ht6.1 (by
    cases hv : (Value.slice a7 ds.length c7).ownBlock with
    | none => exact .inl rfl
    | some k => exact .inr (fun e => by have := (O5.out.lt k hv).1; injection e with e; omega)))
  have K6 := hide (And.intro s6 ki6)
  have e6 := ht6.2.1 0 (by omega)
  refine hK.out _ _ ⟨s6, e6.trans C5.out.2.2.2⟩ (fun hH6 => ?_)
  clear hK K hH5 hH6 ht6 s6 ki6 e6 B5 F5 C5 H4 O5
  try simp only [Act.put, List.getElem_toArray, List.getElem_cons_zero, List.getElem_cons_succ, List.setIfInBounds_toArray, List.set_cons_zero, List.set_cons_succ]
  refine wpAnyH_done (by kernel_rfl) (NoPanic.normal ?_) _
  obtain ⟨ev6, c3, hf6⟩ := hc6.fault
  have HF6 := hide (show FaultIs (w6.drew.setRow w.heap.size C) w.heap.size (ok7t && decide (zs.length = p7t) && RF) ev6 21 from FaultIs.rowO (w := w6.drew) (show Blk w6.drew w.heap.size #[.int .i64 0, .int .i64 0, .int .i64 0, .int .i64 0, .int .i64 0, .string ⟨#[]⟩, .string ⟨#[]⟩, .slice none 0 0] 30 from K6.out.2) rfl rfl ((hf6.mono (by omega)).below ((Below.refl _ _).drew)))
  have HSP := hide hf6
  clear hc6
  rcases hf6 with ⟨_, rfl⟩ | ⟨_, m, hm⟩
  · clear HSP
    have C3 := hide c3
    clear c3
    go_wp2_with fail
    refine wp_region_noPanic ?_
    refine wp_region_held_drew (S := fun w' => Blk w' g C 30 ∧ w'.cell? ⟨w.heap.size + 1, 1, none⟩ = some (.nilIface)) (by kernel_rfl) ⟨K6.out.1, C3.out⟩ (fun hH => ?_)
    refine wpAnyH_take (i := 0) (oi := _) (v := .agg C) rfl (by kernel_rfl) (by kernel_rfl) (by kernel_rfl) (fun _ _ _ h => h) (yieldsIf_load_mid (by rfl) 30 _ rfl g 0 rfl C.toList _ (fun w' h => blk_rangeO h.1) Tryz.underlying30 rfl (by rw [Array.length_toList, HZ.out]; exact infoO8)) hH ?_
    try simp only [Act.put, List.getElem_toArray, List.getElem_cons_zero, List.getElem_cons_succ, List.setIfInBounds_toArray, List.set_cons_zero, List.set_cons_succ]
    refine wpAnyH_take (i := 1) (oi := _) (v := (.pointer (some ⟨w.heap.size + 1, 0, none⟩))) rfl (by kernel_rfl) (by kernel_rfl) (by kernel_rfl) (fun _ _ _ h => h) (Or.inl ⟨by rfl, fun w' hw' => by go_simp⟩) hH ?_
    try simp only [Act.put, List.getElem_toArray, List.getElem_cons_zero, List.getElem_cons_succ, List.setIfInBounds_toArray, List.set_cons_zero, List.set_cons_succ]
    refine wpAnyH_take (i := 2) (oi := _) (v := (.pointer (some ⟨w.heap.size + 1, 0, none⟩))) rfl (by kernel_rfl) (by kernel_rfl) (by kernel_rfl) (fun _ _ _ h => h) (Or.inl ⟨by rfl, fun w' hw' => by go_simp⟩) hH ?_
    try simp only [Act.put, List.getElem_toArray, List.getElem_cons_zero, List.getElem_cons_succ, List.setIfInBounds_toArray, List.set_cons_zero, List.set_cons_succ]
    refine wpAnyH_take (i := 3) (oi := _) (v := (.pointer (some ⟨w.heap.size + 1, 0, none⟩))) rfl (by kernel_rfl) (by kernel_rfl) (by kernel_rfl) (fun _ _ _ h => h) (Or.inl ⟨by rfl, fun w' hw' => by go_simp⟩) hH ?_
    try simp only [Act.put, List.getElem_toArray, List.getElem_cons_zero, List.getElem_cons_succ, List.setIfInBounds_toArray, List.set_cons_zero, List.set_cons_succ]
    refine wpAnyH_take (i := 4) (oi := _) (v := (.pointer (some ⟨w.heap.size + 1, 1, none⟩))) rfl (by kernel_rfl) (by kernel_rfl) (by kernel_rfl) (fun _ _ _ h => h) (Or.inl ⟨by rfl, fun w' hw' => by go_simp⟩) hH ?_
    try simp only [Act.put, List.getElem_toArray, List.getElem_cons_zero, List.getElem_cons_succ, List.setIfInBounds_toArray, List.set_cons_zero, List.set_cons_succ]
    refine wpAnyH_take (i := 5) (oi := _) (v := .nilIface) rfl (by kernel_rfl) (by kernel_rfl) (by kernel_rfl) (fun _ _ _ h => h) (Or.inl ⟨by rfl, fun w' hw' => by have hc := hw'.2; clear hw'; go_simp⟩) hH ?_
    try simp only [Act.put, List.getElem_toArray, List.getElem_cons_zero, List.getElem_cons_succ, List.setIfInBounds_toArray, List.set_cons_zero, List.set_cons_succ]
    refine wpAnyH_ready (rs := [6]) (by kernel_rfl) (by simp) ?_
    refine AllReadyH.cons (o := _) rfl ?_ AllReadyH.nil
    intro K hK
    rw [if_pos (by rfl)]
    refine wp_store_row 30 _ _ rfl w.heap.size C rfl rfl 30 _ K6.out.2 (by rw [HZ.out]; exact infoO8) (by first | (rw [HZ.out]; done) | (rw [HZ.out]; rfl)) HC1.out ?_
    refine hK.out _ _ ⟨(setRow_block _ _ _ _ (by omega)).trans hH.1, (World.cell?_of_block (a := ⟨w.heap.size + 1, 1, none⟩) (setRow_block _ _ _ _ (by show w.heap.size + 1 ≠ w.heap.size; omega))).trans hH.2⟩ (fun hH9 => ?_)
    clear hK K
    try simp only [Act.put, List.getElem_toArray, List.getElem_cons_zero, List.getElem_cons_succ, List.setIfInBounds_toArray, List.set_cons_zero, List.set_cons_succ]
    refine wpAnyH_ready (rs := [7]) (by kernel_rfl) (by simp) ?_
    refine AllReadyH.cons (o := _) rfl ?_ AllReadyH.nil
    intro K hK
    go_simp
    refine hK.out _ _ hH9 (fun hH10 => ?_)
    clear hK K
    try simp only [Act.put, List.getElem_toArray, List.getElem_cons_zero, List.getElem_cons_succ, List.setIfInBounds_toArray, List.set_cons_zero, List.set_cons_succ]
    refine wpAnyH_done (by kernel_rfl) (NoPanic.normal ?_) _
    clear hH hH9 hH10
    go_wp2
    refine bodyPost_ret (v := .tuple #[.agg C, .nilIface]) ?_ rfl ⟨x0, x1, x2, x3, x4, x5, ps, x6, qs, x7, .slice a7 ds.length c7, ds, ok7t, p7t, .nilIface, by rw [HC.out]; rfl, HRD.out, ?_, by rw [← HRF.out]; exact HF6.out, below_setRow B6.out.drew (Nat.le_refl _) _⟩
    · exact results_row_tmp rfl _ _ w.heap.size 30 C (0, 0) _ _ rfl rfl (K6.out.2.row C) Tryz.underlying30 rfl (by rw [HZ.out]; exact infoO8)
    · exact own_mono (own_rowO (w := w6.drew) (own_below O6.out ((Below.refl _ w6).drew)) _ _ (by omega)) (by omega)
  · obtain ⟨t', x', rfl⟩ := hm.iface
    have C3 := hide c3
    clear c3
    go_wp2_with fail
    refine wp_region_noPanic ?_
    refine wp_region_held_drew (S := fun w' => Blk w' g C 30 ∧ w'.cell? ⟨w.heap.size + 1, 1, none⟩ = some ((.iface t' (.pointer (some x'))))) (by kernel_rfl) ⟨K6.out.1, C3.out⟩ (fun hH => ?_)
    refine wpAnyH_take (i := 0) (oi := _) (v := .agg C) rfl (by kernel_rfl) (by kernel_rfl) (by kernel_rfl) (fun _ _ _ h => h) (yieldsIf_load_mid (by rfl) 30 _ rfl g 0 rfl C.toList _ (fun w' h => blk_rangeO h.1) Tryz.underlying30 rfl (by rw [Array.length_toList, HZ.out]; exact infoO8)) hH ?_
    try simp only [Act.put, List.getElem_toArray, List.getElem_cons_zero, List.getElem_cons_succ, List.setIfInBounds_toArray, List.set_cons_zero, List.set_cons_succ]
    refine wpAnyH_take (i := 1) (oi := _) (v := (.pointer (some ⟨w.heap.size + 1, 0, none⟩))) rfl (by kernel_rfl) (by kernel_rfl) (by kernel_rfl) (fun _ _ _ h => h) (Or.inl ⟨by rfl, fun w' hw' => by go_simp⟩) hH ?_
    try simp only [Act.put, List.getElem_toArray, List.getElem_cons_zero, List.getElem_cons_succ, List.setIfInBounds_toArray, List.set_cons_zero, List.set_cons_succ]
    refine wpAnyH_take (i := 2) (oi := _) (v := (.pointer (some ⟨w.heap.size + 1, 0, none⟩))) rfl (by kernel_rfl) (by kernel_rfl) (by kernel_rfl) (fun _ _ _ h => h) (Or.inl ⟨by rfl, fun w' hw' => by go_simp⟩) hH ?_
    try simp only [Act.put, List.getElem_toArray, List.getElem_cons_zero, List.getElem_cons_succ, List.setIfInBounds_toArray, List.set_cons_zero, List.set_cons_succ]
    refine wpAnyH_take (i := 3) (oi := _) (v := (.pointer (some ⟨w.heap.size + 1, 0, none⟩))) rfl (by kernel_rfl) (by kernel_rfl) (by kernel_rfl) (fun _ _ _ h => h) (Or.inl ⟨by rfl, fun w' hw' => by go_simp⟩) hH ?_
    try simp only [Act.put, List.getElem_toArray, List.getElem_cons_zero, List.getElem_cons_succ, List.setIfInBounds_toArray, List.set_cons_zero, List.set_cons_succ]
    refine wpAnyH_take (i := 4) (oi := _) (v := (.pointer (some ⟨w.heap.size + 1, 1, none⟩))) rfl (by kernel_rfl) (by kernel_rfl) (by kernel_rfl) (fun _ _ _ h => h) (Or.inl ⟨by rfl, fun w' hw' => by go_simp⟩) hH ?_
    try simp only [Act.put, List.getElem_toArray, List.getElem_cons_zero, List.getElem_cons_succ, List.setIfInBounds_toArray, List.set_cons_zero, List.set_cons_succ]
    refine wpAnyH_take (i := 5) (oi := _) (v := (.iface t' (.pointer (some x')))) rfl (by kernel_rfl) (by kernel_rfl) (by kernel_rfl) (fun _ _ _ h => h) (Or.inl ⟨by rfl, fun w' hw' => by have hc := hw'.2; clear hw'; go_simp⟩) hH ?_
    try simp only [Act.put, List.getElem_toArray, List.getElem_cons_zero, List.getElem_cons_succ, List.setIfInBounds_toArray, List.set_cons_zero, List.set_cons_succ]
    refine wpAnyH_ready (rs := [6]) (by kernel_rfl) (by simp) ?_
    refine AllReadyH.cons (o := _) rfl ?_ AllReadyH.nil
    intro K hK
    rw [if_pos (by rfl)]
    refine wp_store_row 30 _ _ rfl w.heap.size C rfl rfl 30 _ K6.out.2 (by rw [HZ.out]; exact infoO8) (by first | (rw [HZ.out]; done) | (rw [HZ.out]; rfl)) HC1.out ?_
    refine hK.out _ _ ⟨(setRow_block _ _ _ _ (by omega)).trans hH.1, (World.cell?_of_block (a := ⟨w.heap.size + 1, 1, none⟩) (setRow_block _ _ _ _ (by show w.heap.size + 1 ≠ w.heap.size; omega))).trans hH.2⟩ (fun hH9 => ?_)
    clear hK K
    try simp only [Act.put, List.getElem_toArray, List.getElem_cons_zero, List.getElem_cons_succ, List.setIfInBounds_toArray, List.set_cons_zero, List.set_cons_succ]
    refine wpAnyH_ready (rs := [7]) (by kernel_rfl) (by simp) ?_
    refine AllReadyH.cons (o := _) rfl ?_ AllReadyH.nil
    intro K hK
    go_simp
    refine hK.out _ _ hH9 (fun hH10 => ?_)
    clear hK K
    try simp only [Act.put, List.getElem_toArray, List.getElem_cons_zero, List.getElem_cons_succ, List.setIfInBounds_toArray, List.set_cons_zero, List.set_cons_succ]
    refine wpAnyH_done (by kernel_rfl) (NoPanic.normal ?_) _
    clear hH hH9 hH10
    go_wp2
    refine bodyPost_ret (v := .tuple #[.agg C, (.iface t' (.pointer (some x')))]) ?_ rfl ⟨x0, x1, x2, x3, x4, x5, ps, x6, qs, x7, .slice a7 ds.length c7, ds, ok7t, p7t, (.iface t' (.pointer (some x'))), by rw [HC.out]; rfl, HRD.out, ?_, by rw [← HRF.out]; exact HF6.out, below_setRow B6.out.drew (Nat.le_refl _) _⟩
    · exact results_row_tmp rfl _ _ w.heap.size 30 C (0, 0) _ _ rfl rfl (K6.out.2.row C) Tryz.underlying30 rfl (by rw [HZ.out]; exact infoO8)
    · exact own_mono (own_rowO (w := w6.drew) (own_below O6.out ((Below.refl _ w6).drew)) _ _ (by omega)) (by omega)
end Go.Proofs.YtohmjfagbhnieaaGreatDoor
