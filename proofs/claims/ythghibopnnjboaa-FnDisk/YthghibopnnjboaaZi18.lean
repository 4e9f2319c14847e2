/- The model's device: what it holds; L01New, Image, Seen, Cached. What survives a crash: the closures of survivorsOf and barrier, called. The model's crash: what is kept of the cache. -/
import Derived.Test.YthghibopnnjboaaZi17
import Derived.Deep.RegionWith
import Derived.Laws.BitsAllLaws
namespace Go.Proofs.Ythghibopnnjboaa
set_option linter.unusedVariables false
set_option linter.unusedSimpArgs false
open Go.RowKit

/-- Block d is the model's device: its image, the cache, the fuse, whether the power is off, what was written whole. -/
structure DvM (W : World) (base d : Nat) (vi vc vw : Value) (I : List Int) (C : List (Nat × List Int)) (cs : List Value) (fuse : Int) (off : Bool) (H : List NE) (hs : List Value) : Prop where
  blk : Blk W d #[vi, vc, .int .i64 fuse, .bool off, vw] 80
  img : W.ownsRow base 5 1 vi I.length (I.map (Value.int .u8))
  cac : OwnN W base 92 1 vc (C.map neW) cs
  who : OwnN W base 22 0 vw H hs
  ok : ∀ c ∈ C, c.1 + c.2.length ≤ I.length
  n1 : I.length ≤ 1048576
  n2 : C.length ≤ 100000
section
variable {W W' : World} {base d : Nat} {vi vc vw : Value} {I : List Int} {C : List (Nat × List Int)} {cs : List Value} {fuse : Int} {off : Bool} {H : List NE} {hs : List Value}
theorem DvM.below (h : DvM W base d vi vc vw I C cs fuse off H hs) (hb : Below W.heap.size W W') : DvM W' base d vi vc vw I C cs fuse off H hs :=
  ⟨h.blk.below hb h.blk.lt, own_below h.img hb, h.cac.below hb, h.who.below hb, h.ok, h.n1, h.n2⟩
set_option maxRecDepth 100000 in
theorem newM_any (v : Value) (zs : List Int) (w : World) (h : Rd .u8 w v zs) (hn : zs.length ≤ 1048576) :
    Calls Try.prog 31 #[v] w fun e w' => ∃ d vi, e = .returned (.pointer (some ⟨d, 0, none⟩)) ∧ w.heap.size ≤ d ∧ DvM w' w.heap.size d vi (.slice none 0 0) (.slice none 0 0) zs [] [] (-1) false [] [] ∧ Below w.heap.size w w' := by
  obtain ⟨i0, hi, hz0, hz1, hz2⟩ := info_parts infoU8
  obtain ⟨a, cap, rfl⟩ : ∃ a cap, v = .slice a zs.length cap := by obtain ⟨a, cap, e, _⟩ := h; exact ⟨a, cap, e⟩
  have HR := hide h.srcM
  clear h
  go_enter Try.func31, Try.ntmps31
  go_wp2_with (first | (at_builtin; refine wpList_append_copyM w rfl (.tmp 3) (.tmp 4) 22 rfl 5 i0 (.int .u8 0) 1 1 Try.underlying22 hi hz0 hz1 hz2 rfl (by decide) rfl a zs.length cap (zs.map (Value.int .u8)) rfl (by simp) HR.out (ints_oneCell _ _) (by unfold maxLen; omega) (by omega) ?_; intro v1 w1 o1 b1; obtain ⟨oa, oc, rfl⟩ := shape_rowK o1; have O1 := hide (And.intro o1 b1); clear o1 b1) | fail)
  go_ret
  have hsz := O1.out.2.size
  have b3 : Below w1.heap.size w1 (w1.alloc (.cells #[.slice oa zs.length oc, .slice none 0 0, .int .i64 (-1), .bool false, .slice none 0 0] 80)) := (Below.refl _ _).alloc (Nat.le_refl _) _
  exact ⟨w1.heap.size, _, rfl, by omega, ⟨Blk.new w1 _ _, own_below O1.out.1 b3, OwnN.nil _ _ _ _, OwnN.nil _ _ _ _, fun c hc => (by cases hc), hn, by simp⟩, O1.out.2.trans (b3.mono hsz)⟩
set_option maxRecDepth 100000 in
theorem imageM_any (h : DvM W base d vi vc vw I C cs fuse off H hs) :
    Calls Try.prog 33 #[.pointer (some ⟨d, 0, none⟩)] W fun e w' => ∃ v', e = .returned v' ∧ w'.ownsRow W.heap.size 5 1 v' I.length (I.map (Value.int .u8)) ∧ Below W.heap.size W w' := by
  obtain ⟨i0, hi, hz0, hz1, hz2⟩ := info_parts infoU8
  have hn := h.n1
  obtain ⟨a, cap, rfl⟩ := shape_rowK h.img
  have c0 := ((h.blk.alloc (.cells #[] 5)).cell 0).trans (show _ = some (.slice a I.length cap) from rfl)
  have HR := hide (Rd.own h.img).srcM
  clear h
  go_enter Try.func33, Try.ntmps33
  go_wp2_with (first | (at_builtin; refine wpList_append_copyM W rfl (.tmp 3) (.tmp 7) 22 rfl 5 i0 (.int .u8 0) 1 1 Try.underlying22 hi hz0 hz1 hz2 rfl (by decide) rfl a I.length cap (I.map (Value.int .u8)) rfl (by simp) HR.out (ints_oneCell _ _) (by unfold maxLen; omega) (by omega) ?_; intro v1 w1 o1 b1; have O1 := hide (And.intro o1 b1); clear o1 b1) | fail)
  go_ret
  exact ⟨_, rfl, O1.out.1, O1.out.2⟩
set_option maxRecDepth 100000 in
theorem seenM_any (h : DvM W base d vi vc vw I C cs fuse off H hs) :
    Calls Try.prog 34 #[.pointer (some ⟨d, 0, none⟩)] W fun e w' => ∃ v', e = .returned v' ∧ w'.ownsRow W.heap.size 5 1 v' I.length ((mkW I C).map (Value.int .u8)) ∧ Below W.heap.size W w' := by
  have c0 := (h.blk.cell 0).trans (show _ = some vi from rfl)
  have c1 := (h.blk.cell 1).trans (show _ = some vc from rfl)
  have bd : Below W.heap.size W W.drew := (Below.refl _ _).drew
  have HM := hide (And.intro (make_any vi vc I C cs W.drew (Rd.own (own_below h.img bd)) (h.cac.below bd).rd h.ok h.n1 h.n2) bd)
  obtain ⟨ia, ic, rfl⟩ := shape_rowK h.img
  have hr := h.cac.row
  rw [List.length_map] at hr
  obtain ⟨ca, cc, rfl⟩ := shape_rowK hr
  clear h hr bd
  go_enter Try.func34, Try.ntmps34
  go_wp2_with fail
  go_region_with (go_at_call 52; refine HM.out.1.mono ?_; rintro e w1 ⟨v1, rfl, o1, b1⟩; have H1 := hide (And.intro o1 (HM.out.2.trans b1)); clear o1 b1)
  all_goals
    go_wp2
    go_ret
    exact ⟨_, rfl, H1.out.1, H1.out.2⟩
set_option maxRecDepth 100000 in
theorem cachedM_any (h : DvM W base d vi vc vw I C cs fuse off H hs) :
    Calls Try.prog 35 #[.pointer (some ⟨d, 0, none⟩)] W fun e w' => e = .returned (.int .i64 (C.length : Int)) ∧ w' = W := by
  have hr := h.cac.row
  rw [List.length_map] at hr
  obtain ⟨a, cap, rfl⟩ := shape_rowK hr
  have c1 := (h.blk.cell 1).trans (show _ = some (.slice a C.length cap) from rfl)
  have hn := h.n2
  clear h hr
  go_enter Try.func35, Try.ntmps35
  go_wp2
  go_ret
  exact ⟨rfl, rfl⟩
end
end Go.Proofs.Ythghibopnnjboaa

namespace Go.Proofs.Ythghibopnnjboaa
set_option linter.unusedVariables false
set_option linter.unusedSimpArgs false
open Go.RowKit

/-- Whether write i of the cache survives by the choice cs. -/
def keeps (cs : List Int) (i : Nat) : Bool := decide (i / 8 < cs.length) && decide (((cs.getD (i / 8) 0).toNat / 2 ^ (i % 8)) % 2 = 1)
theorem and1 (y : Nat) (h : y < 256) : bits .and .u8 (y : Int) 1 = ((y % 2 : Nat) : Int) := by
  have := u8_and_nat y 1 h (by omega)
  rw [Nat.and_one_is_mod] at this
  exact this
theorem bit_dec (y : Nat) : Ending.returned (Value.bool (((y % 2 : Nat) : Int) == 1)) = Ending.returned (Value.bool (decide (y % 2 = 1))) := by
  have : y % 2 = 0 ∨ y % 2 = 1 := by omega
  rcases this with h | h <;> rw [h] <;> rfl
set_option maxRecDepth 100000 in
set_option maxHeartbeats 2000000 in
theorem surv_any (g : Nat) (v : Value) (cs : List Int) (i : Nat) (w : World) (hv : w.cell? ⟨g, 0, none⟩ = some v) (h : Rd .u8 w v cs) (hbd : ∀ z ∈ cs, 0 ≤ z ∧ z < 256) (hi : i ≤ 1000000) :
    Calls Try.prog 61 #[.int .i64 (i : Int), .pointer (some ⟨g, 0, none⟩)] w fun e w' => e = .returned (.bool (keeps cs i)) ∧ w' = w := by
  have hm := h.len
  unfold maxLen at hm
  obtain ⟨a, cap, rfl⟩ : ∃ a cap, v = .slice a cs.length cap := by obtain ⟨a, cap, e, _⟩ := h; exact ⟨a, cap, e⟩
  obtain ⟨q, hq⟩ : ∃ q : Nat, (i : Int) / 8 = (q : Int) := ⟨i / 8, by omega⟩
  obtain ⟨r, hr⟩ : ∃ r : Nat, (i : Int) % 8 = (r : Int) := ⟨i % 8, by omega⟩
  have hqn : i / 8 = q := by omega
  have hrn : i % 8 = r := by omega
  have hr8 : r < 8 := by omega
  by_cases hlt : q < cs.length
  · obtain ⟨b, off, c2, hsv, hb2, _, _, hcell⟩ := h.partsC (by omega)
    injection hsv with e1 e2 e3
    subst e1
    subst e3
    clear e2
    have hbz := hbd _ (List.getElem_mem hlt)
    obtain ⟨x, hx, hx2⟩ : ∃ x : Nat, cs.getD q 0 = (x : Int) ∧ x < 256 := ⟨(cs.getD q 0).toNat, by simp [List.getD, hlt]; omega, by simp [List.getD, hlt]; omega⟩
    have cx : w.cell? ⟨b, off + q, none⟩ = some (.int .u8 (x : Int)) := by rw [← hx]; exact hcell q hlt
    have hqI : (q : Int) < (cs.length : Int) := by omega
    have HK := hide (show keeps cs i = decide ((x / 2 ^ r) % 2 = 1) by unfold keeps; rw [hqn, hrn, hx, Int.toNat_natCast]; simp [hlt])
    clear h hbd hcell hbz hx hqn hrn
    have hcase : r = 0 ∨ r = 1 ∨ r = 2 ∨ r = 3 ∨ r = 4 ∨ r = 5 ∨ r = 6 ∨ r = 7 := by omega
    rcases hcase with rfl | rfl | rfl | rfl | rfl | rfl | rfl | rfl
    · go_enter Try.func61, Try.ntmps61
      go_wp2
      go_ret
      refine ⟨?_, rfl⟩
      show Ending.returned (Value.bool (bits .and .u8 (x : Int) 1 == 1)) = _
      rw [HK.out, show (x : Int) = ((x / 2 ^ 0 : Nat) : Int) by simp, and1 _ (Nat.lt_of_le_of_lt (Nat.div_le_self _ _) hx2)]
      exact bit_dec _
    · go_enter Try.func61, Try.ntmps61
      go_wp2
      go_ret
      refine ⟨?_, rfl⟩
      show Ending.returned (Value.bool (bits .and .u8 ((x : Int) / 2) 1 == 1)) = _
      rw [HK.out, show ((x : Int) / 2) = ((x / 2 ^ 1 : Nat) : Int) by simp, and1 _ (Nat.lt_of_le_of_lt (Nat.div_le_self _ _) hx2)]
      exact bit_dec _
    · go_enter Try.func61, Try.ntmps61
      go_wp2
      go_ret
      refine ⟨?_, rfl⟩
      show Ending.returned (Value.bool (bits .and .u8 ((x : Int) / 4) 1 == 1)) = _
      rw [HK.out, show ((x : Int) / 4) = ((x / 2 ^ 2 : Nat) : Int) by simp, and1 _ (Nat.lt_of_le_of_lt (Nat.div_le_self _ _) hx2)]
      exact bit_dec _
    · go_enter Try.func61, Try.ntmps61
      go_wp2
      go_ret
      refine ⟨?_, rfl⟩
      show Ending.returned (Value.bool (bits .and .u8 ((x : Int) / 8) 1 == 1)) = _
      rw [HK.out, show ((x : Int) / 8) = ((x / 2 ^ 3 : Nat) : Int) by simp, and1 _ (Nat.lt_of_le_of_lt (Nat.div_le_self _ _) hx2)]
      exact bit_dec _
    · go_enter Try.func61, Try.ntmps61
      go_wp2
      go_ret
      refine ⟨?_, rfl⟩
      show Ending.returned (Value.bool (bits .and .u8 ((x : Int) / 16) 1 == 1)) = _
      rw [HK.out, show ((x : Int) / 16) = ((x / 2 ^ 4 : Nat) : Int) by simp, and1 _ (Nat.lt_of_le_of_lt (Nat.div_le_self _ _) hx2)]
      exact bit_dec _
    · go_enter Try.func61, Try.ntmps61
      go_wp2
      go_ret
      refine ⟨?_, rfl⟩
      show Ending.returned (Value.bool (bits .and .u8 ((x : Int) / 32) 1 == 1)) = _
      rw [HK.out, show ((x : Int) / 32) = ((x / 2 ^ 5 : Nat) : Int) by simp, and1 _ (Nat.lt_of_le_of_lt (Nat.div_le_self _ _) hx2)]
      exact bit_dec _
    · go_enter Try.func61, Try.ntmps61
      go_wp2
      go_ret
      refine ⟨?_, rfl⟩
      show Ending.returned (Value.bool (bits .and .u8 ((x : Int) / 64) 1 == 1)) = _
      rw [HK.out, show ((x : Int) / 64) = ((x / 2 ^ 6 : Nat) : Int) by simp, and1 _ (Nat.lt_of_le_of_lt (Nat.div_le_self _ _) hx2)]
      exact bit_dec _
    · go_enter Try.func61, Try.ntmps61
      go_wp2
      go_ret
      refine ⟨?_, rfl⟩
      show Ending.returned (Value.bool (bits .and .u8 ((x : Int) / 128) 1 == 1)) = _
      rw [HK.out, show ((x : Int) / 128) = ((x / 2 ^ 7 : Nat) : Int) by simp, and1 _ (Nat.lt_of_le_of_lt (Nat.div_le_self _ _) hx2)]
      exact bit_dec _
  · have hqI : ¬ ((q : Int) < (cs.length : Int)) := by omega
    have HK := hide (show keeps cs i = false by unfold keeps; rw [hqn]; simp [hlt])
    clear h hbd hqn hrn
    go_enter Try.func61, Try.ntmps61
    go_wp2
    go_ret
    exact ⟨by rw [HK.out]; rfl, rfl⟩
theorem barr_any (i : Int) (w : World) : Calls Try.prog 58 #[.int .i64 i] w fun e w' => e = .returned (.bool true) ∧ w' = w := by
  go_enter Try.func58, Try.ntmps58
  go_wp2
  go_ret
  exact ⟨rfl, rfl⟩
end Go.Proofs.Ythghibopnnjboaa

namespace Go.Proofs.Ythghibopnnjboaa
set_option linter.unusedVariables false
set_option linter.unusedSimpArgs false
open Go.RowKit

/-- The first i cached writes that survive. -/
def keptTo (ch : List Int) (C : List (Nat × List Int)) : Nat → List (Nat × List Int)
  | 0 => []
  | i + 1 => match C[i]? with
    | some c => if keeps ch i then keptTo ch C i ++ [c] else keptTo ch C i
    | none => keptTo ch C i
theorem keptTo_yes {ch : List Int} {C : List (Nat × List Int)} {i : Nat} {c : Nat × List Int} (h : C[i]? = some c) (hk : keeps ch i = true) : keptTo ch C (i + 1) = keptTo ch C i ++ [c] := by
  rw [keptTo, h]
  simp [hk]
theorem keptTo_no {ch : List Int} {C : List (Nat × List Int)} {i : Nat} {c : Nat × List Int} (h : C[i]? = some c) (hk : keeps ch i = false) : keptTo ch C (i + 1) = keptTo ch C i := by
  rw [keptTo, h]
  simp [hk]
theorem keptTo_mem (ch : List Int) (C : List (Nat × List Int)) : ∀ i, ∀ c ∈ keptTo ch C i, c ∈ C
  | 0, c, h => by cases h
  | i + 1, c, h => by
    rw [keptTo] at h
    split at h
    · rename_i x hx
      split at h
      · rcases List.mem_append.1 h with h | h
        · exact keptTo_mem ch C i c h
        · rw [List.mem_singleton.1 h]; exact List.mem_of_getElem? hx
      · exact keptTo_mem ch C i c h
    · exact keptTo_mem ch C i c h
theorem keptTo_len (ch : List Int) (C : List (Nat × List Int)) : ∀ i, (keptTo ch C i).length ≤ i
  | 0 => by simp [keptTo]
  | i + 1 => by
    have := keptTo_len ch C i
    rw [keptTo]
    split
    · split
      · rw [List.length_append, List.length_singleton]; omega
      · omega
    · omega
/-- A list of writes in a row of its own, whose bytes are read. -/
structure Kr (W0 W : World) (base : Nat) (v : Value) (K : List (Nat × List Int)) (us : List Value) : Prop where
  len : us.length = K.length
  row : W.ownsRow base 92 2 v K.length (cellsN us (K.map neW))
  dat : ∀ (i : Nat) (u : Value) (c : Nat × List Int), us[i]? = some u → K[i]? = some c → Rd .u8 W0 u c.2
theorem Kr.rd {W0 W : World} {base : Nat} {v : Value} {K : List (Nat × List Int)} {us : List Value} (h : Kr W0 W base v K us) (hb0 : Below W0.heap.size W0 W) : RdN W 1 v (K.map neW) us := by
  have hl : (K.map neW).length = K.length := List.length_map ..
  refine ⟨by rw [hl]; exact h.len, fun l hl => ?_, ?_, fun i u l hu hl => ?_⟩
  · obtain ⟨c, _, rfl⟩ := List.mem_map.1 hl
    rfl
  · have hrow := h.row
    rcases h.row.2 with ⟨rfl, h0⟩ | ⟨g, cap, cur, rfl, hb, hg, h1, h2, h3, h4⟩
    · exact ⟨none, 0, by rw [hl, h0], fun hn => by omega, by omega, by unfold maxLen; omega⟩
    · refine ⟨some ⟨g, 0, none⟩, cap, by rw [hl], fun _ => ⟨g, 0, rfl, (hrow.lt g rfl).2, fun j u hu => ?_⟩, by rw [hl]; exact h1, h2⟩
      have := hrow.cells (g := g) rfl j u hu
      rw [Addr.add_mid] at this
      exact this
  · rw [List.getElem?_map] at hl
    cases hc : K[i]? with
    | none => rw [hc] at hl; cases hl
    | some c =>
      rw [hc] at hl
      have : neW c = l := by simpa using hl
      rw [← this]
      exact (h.dat i u c hu hc).below hb0
theorem Kr.below {W0 W W' : World} {base : Nat} {v : Value} {K : List (Nat × List Int)} {us : List Value} (h : Kr W0 W base v K us) (hb : Below W.heap.size W W') : Kr W0 W' base v K us :=
  ⟨h.len, own_below h.row hb, h.dat⟩
theorem Kr.push {W0 W W' : World} {base : Nat} {v v' : Value} {K : List (Nat × List Int)} {us : List Value} (h : Kr W0 W base v K us) (c : Nat × List Int) (u : Value) (hu : Rd .u8 W0 u c.2) (ho : W'.ownsRow base 92 2 v' (K.length + 1) (cellsN us (K.map neW) ++ [.int .i64 (c.1 : Int), u])) : Kr W0 W' base v' (K ++ [c]) (us ++ [u]) := by
  refine ⟨by rw [List.length_append, List.length_append, h.len]; rfl, ?_, fun i x y hx hy => ?_⟩
  · rw [List.length_append, List.length_singleton, List.map_append, cellsN_append _ _ _ _ (by rw [List.length_map]; exact h.len)]
    exact ho
  · rcases Nat.lt_or_ge i K.length with hi | hi
    · rw [List.getElem?_append_left (by rw [h.len]; exact hi)] at hx
      rw [List.getElem?_append_left hi] at hy
      exact h.dat i x y hx hy
    · rw [List.getElem?_append_right (by rw [h.len]; exact hi), h.len] at hx
      rw [List.getElem?_append_right hi] at hy
      rcases Nat.eq_zero_or_pos (i - K.length) with h0 | h0
      · rw [h0] at hx hy
        have e1 : x = u := by simpa using hx.symm
        have e2 : y = c := by simpa using hy.symm
        rw [e1, e2]
        exact hu
      · rw [List.getElem?_eq_none (by simp; omega)] at hx; cases hx
end Go.Proofs.Ythghibopnnjboaa
