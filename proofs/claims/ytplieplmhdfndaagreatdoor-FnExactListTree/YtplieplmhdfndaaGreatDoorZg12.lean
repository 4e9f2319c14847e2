/- The model's directories: l06Slot. -/
import Derived.Test.YtplieplmhdfndaaGreatDoorZg09
import Derived.Test.YtplieplmhdfndaaGreatDoorZg10
import Derived.Test.YtplieplmhdfndaaGreatDoorZg11
namespace Go.Proofs.YtplieplmhdfndaaGreatDoor
set_option linter.unusedVariables false
set_option linter.unusedSimpArgs false
open Go.RowKit

/-- The bytes of an entry's slot. -/
def slotB (nm : ByteArray) (ino kd : Nat) : List Int := le 4 ino ++ (le 1 kd ++ (le 1 nm.size ++ (strInts nm ++ List.replicate (26 - nm.size) 0)))
theorem slotB_eq (nm : ByteArray) (ino kd : Nat) : slotB nm ino kd = ([le 4 ino, le 1 kd, le 1 nm.size, strInts nm] : List (List Int)).flatten ++ List.replicate (32 - ([le 4 ino, le 1 kd, le 1 nm.size, strInts nm] : List (List Int)).flatten.length) 0 := by
  have e : ([le 4 ino, le 1 kd, le 1 nm.size, strInts nm] : List (List Int)).flatten.length = 6 + nm.size := by
    simp only [List.flatten_cons, List.flatten_nil, List.length_append, List.length_nil, le_len, strInts_len]
    omega
  rw [e, show 32 - (6 + nm.size) = 26 - nm.size by omega]
  unfold slotB
  simp only [List.flatten_cons, List.flatten_nil, List.append_nil, List.append_assoc]
def Slo (B : Nat) (lst : List Int) (v : Value) (w : World) : Prop := ∃ g cp, v = .slice (some ⟨g, 0, none⟩) 32 cp ∧ w.ownsRow B 5 1 v 32 (lst.map (Value.int .u8))
/-- What the values of the region are. -/
def VD (B b ino kd : Nat) (nm : ByteArray) (i : Nat) (v : Value) (w : World) : Prop := match i with
  | 0 => v = .pointer (some ⟨b, 1, none⟩)
  | 1 => v = .int .i64 (ino : Int)
  | 2 => Sl 4 (le 4 ino) v w
  | 3 => v = .pointer (some ⟨b, 2, none⟩)
  | 4 => v = .int .i64 (kd : Int)
  | 5 => Sl 1 (le 1 kd) v w
  | 6 => v = .pointer (some ⟨b, 0, none⟩)
  | 7 => v = .string nm
  | 8 => v = .int .i64 (nm.size : Int)
  | 9 => Sl 1 (le 1 nm.size) v w
  | 10 => v = .pointer (some ⟨b, 0, none⟩)
  | 11 => v = .string nm
  | 12 => Sl nm.size (strInts nm) v w
  | 13 => ∃ g, v = .slice (some ⟨g, 0, none⟩) 4 4 ∧ g < w.heap.size ∧ ∃ vs, (∀ j u, vs[j]? = some u → w.cell? ⟨g, j, none⟩ = some u) ∧ AllRd w vs [le 4 ino, le 1 kd, le 1 nm.size, strInts nm]
  | 14 => Rd .u8 w v ([le 4 ino, le 1 kd, le 1 nm.size, strInts nm] : List (List Int)).flatten
  | 15 => Slo B (slotB nm ino kd) v w
  | 16 => Slo B (slotB nm ino kd) v w
  | _ => False
theorem VD.below {B b ino kd : Nat} {nm : ByteArray} {w w' : World} (hb : Below w.heap.size w w') : ∀ (j : Nat) (u : Value), VD B b ino kd nm j u w → VD B b ino kd nm j u w'
  | 0, _, h => h
  | 1, _, h => h
  | 2, _, h => Sl.below h hb
  | 3, _, h => h
  | 4, _, h => h
  | 5, _, h => Sl.below h hb
  | 6, _, h => h
  | 7, _, h => h
  | 8, _, h => h
  | 9, _, h => Sl.below h hb
  | 10, _, h => h
  | 11, _, h => h
  | 12, _, h => Sl.below h hb
  | 13, _, ⟨g, h1, h2, vs, h3, h4⟩ => ⟨g, h1, Nat.lt_of_lt_of_le h2 hb.size, vs, fun j u hu => (hb.cell (p := ⟨g, j, none⟩) h2).trans (h3 j u hu), h4.below hb⟩
  | 14, _, h => Rd.below h hb
  | 15, _, ⟨g, cp, h, ho⟩ => ⟨g, cp, h, own_below ho hb⟩
  | 16, _, ⟨g, cp, h, ho⟩ => ⟨g, cp, h, own_below ho hb⟩
  | _ + 17, _, h => h

set_option maxRecDepth 100000 in
set_option maxHeartbeats 2000000 in
theorem slot_any (nm : ByteArray) (ino kd : Nat) (w : World) (hn : nm.size ≤ 26) (hn0 : 0 < nm.size) (h1 : ino < 4294967296) (h2 : kd < 256) :
    Calls Tryz.prog 155 #[.agg (entC nm ino kd)] w fun e w' => ∃ v, e = .returned v ∧ Slo w.heap.size (slotB nm ino kd) v w' ∧ Below w.heap.size w w' := by
  have HN := hide (show nm.size ≤ maxLen from by unfold maxLen; omega)
  have HB := hide (show Below w.heap.size w (w.alloc (.cells (entC nm ino kd) 61)) from (Below.refl _ _).alloc (Nat.le_refl _) _)
  have KW := hide (Blk.new w (entC nm ino kd) 61)
  have HFl := hide (show ([le 4 ino, le 1 kd, le 1 nm.size, strInts nm] : List (List Int)).flatten.length = 6 + nm.size from by
    simp only [List.flatten_cons, List.flatten_nil, List.length_append, List.length_nil, le_len, strInts_len]
    omega)
  have HPos := hide (show (∀ b ∈ ([le 4 ino, le 1 kd, le 1 nm.size, strInts nm] : List (List Int)), 0 < b.length) ∧ ([le 4 ino, le 1 kd, le 1 nm.size, strInts nm] : List (List Int)).flatten.length ≤ 100000 from by
    constructor
    · intro b hb
      simp only [List.mem_cons, List.not_mem_nil, or_false] at hb
      rcases hb with rfl | rfl | rfl | rfl
      · rw [le_len]; omega
      · rw [le_len]; omega
      · rw [le_len]; omega
      · rw [strInts_len]; omega
    · rw [HFl.out]; omega)
  go_enter Tryz.func155, Tryz.ntmps155
  go_wp2_with fail
  obtain ⟨W, hW⟩ : ∃ W, W = w.alloc (.cells (entC nm ino kd) 61) := ⟨_, rfl⟩
  rw [← hW]
  have hlw : w.heap.size < W.heap.size := by rw [hW]; simp
  have HCell := hide (show ∀ w', Below W.heap.size W w' → w'.cell? ⟨w.heap.size, 1, none⟩ = some (.int .i64 (ino : Int)) ∧ w'.cell? ⟨w.heap.size, 2, none⟩ = some (.int .i64 (kd : Int)) ∧ w'.cell? ⟨w.heap.size, 0, none⟩ = some (.string nm) from fun w' h => by
    have k : Blk W w.heap.size (entC nm ino kd) 61 := by rw [hW]; exact KW.out
    exact ⟨(h.cell (p := ⟨w.heap.size, 1, none⟩) k.lt).trans ((k.cell 1).trans rfl), (h.cell (p := ⟨w.heap.size, 2, none⟩) k.lt).trans ((k.cell 2).trans rfl), (h.cell (p := ⟨w.heap.size, 0, none⟩) k.lt).trans ((k.cell 0).trans rfl)⟩)
  have HBW := hide (show Below w.heap.size w W from by rw [hW]; exact HB.out)
  clear hW HB KW
  refine wp_region_noPanic ?_
  refine wp_region_any (by kernel_rfl) ?_
  refine wpAny_invB [(1, .pointer (some ⟨w.heap.size, 0, none⟩))] (fun w' => Below W.heap.size W w') (VD w.heap.size w.heap.size ino kd nm) 19 [] (by kernel_rfl) ?hstep ?hfin _ _ (by rfl) (by rfl) ((Below.refl _ _).drew) (by intro t v h; simp at h; obtain ⟨rfl, rfl⟩ := h; rfl)
  case hstep =>
    intro i o listed ac wz hi hall hI
    have f1 : ac.tmps.getD 1 undef = .pointer (some ⟨w.heap.size, 0, none⟩) := hI.fix 1 _ (by simp)
    match i, hi with
    | 0, hi =>
      obtain rfl := Option.some.inj hi
      refine ⟨by rfl, ?_⟩
      go_simp
      exact ⟨_, rfl, rfl, hI.held⟩
    | 1, hi =>
      obtain rfl := Option.some.inj hi
      have v0 : ac.tmps.getD 3 undef = .pointer (some ⟨w.heap.size, 1, none⟩) := hI.at hall 0 3 rfl rfl (by rfl)
      have hc := (HCell.out wz hI.held).1
      refine ⟨by rfl, ?_⟩
      go_simp
      exact ⟨_, rfl, rfl, hI.held⟩
    | 2, hi =>
      obtain rfl := Option.some.inj hi
      have v0 : ac.tmps.getD 4 undef = .int .i64 (ino : Int) := hI.at hall 1 4 rfl rfl (by rfl)
      refine ⟨by rfl, ?_⟩
      go_simp
      refine (put_pos ino 4 _ (by omega) (by omega) (by omega)).mono ?_
      rintro e w' ⟨gN, cN, rfl, oN, bN⟩
      exact ⟨_, rfl, ⟨⟨_, _, rfl⟩, Rd.own oN⟩, hI.held.trans (bN.mono hI.held.size), VD.below bN⟩
    | 3, hi =>
      obtain rfl := Option.some.inj hi
      refine ⟨by rfl, ?_⟩
      go_simp
      exact ⟨_, rfl, rfl, hI.held⟩
    | 4, hi =>
      obtain rfl := Option.some.inj hi
      have v0 : ac.tmps.getD 6 undef = .pointer (some ⟨w.heap.size, 2, none⟩) := hI.at hall 3 6 rfl rfl (by rfl)
      have hc := (HCell.out wz hI.held).2.1
      refine ⟨by rfl, ?_⟩
      go_simp
      exact ⟨_, rfl, rfl, hI.held⟩
    | 5, hi =>
      obtain rfl := Option.some.inj hi
      have v0 : ac.tmps.getD 7 undef = .int .i64 (kd : Int) := hI.at hall 4 7 rfl rfl (by rfl)
      refine ⟨by rfl, ?_⟩
      go_simp
      refine (put_pos kd 1 _ (by omega) (by omega) (by omega)).mono ?_
      rintro e w' ⟨gN, cN, rfl, oN, bN⟩
      exact ⟨_, rfl, ⟨⟨_, _, rfl⟩, Rd.own oN⟩, hI.held.trans (bN.mono hI.held.size), VD.below bN⟩
    | 6, hi =>
      obtain rfl := Option.some.inj hi
      refine ⟨by rfl, ?_⟩
      go_simp
      exact ⟨_, rfl, rfl, hI.held⟩
    | 7, hi =>
      obtain rfl := Option.some.inj hi
      have v0 : ac.tmps.getD 9 undef = .pointer (some ⟨w.heap.size, 0, none⟩) := hI.at hall 6 9 rfl rfl (by rfl)
      have hc := (HCell.out wz hI.held).2.2
      refine ⟨by rfl, ?_⟩
      go_simp
      exact ⟨_, rfl, rfl, hI.held⟩
    | 8, hi =>
      obtain rfl := Option.some.inj hi
      have v0 : ac.tmps.getD 10 undef = .string nm := hI.at hall 7 10 rfl rfl (by rfl)
      refine ⟨by rfl, ?_⟩
      go_simp
      exact ⟨_, rfl, rfl, hI.held⟩
    | 9, hi =>
      obtain rfl := Option.some.inj hi
      have v0 : ac.tmps.getD 11 undef = .int .i64 (nm.size : Int) := hI.at hall 8 11 rfl rfl (by rfl)
      refine ⟨by rfl, ?_⟩
      go_simp
      refine (put_pos nm.size 1 _ (by omega) (by omega) (by omega)).mono ?_
      rintro e w' ⟨gN, cN, rfl, oN, bN⟩
      exact ⟨_, rfl, ⟨⟨_, _, rfl⟩, Rd.own oN⟩, hI.held.trans (bN.mono hI.held.size), VD.below bN⟩
    | 10, hi =>
      obtain rfl := Option.some.inj hi
      refine ⟨by rfl, ?_⟩
      go_simp
      exact ⟨_, rfl, rfl, hI.held⟩
    | 11, hi =>
      obtain rfl := Option.some.inj hi
      have v0 : ac.tmps.getD 13 undef = .pointer (some ⟨w.heap.size, 0, none⟩) := hI.at hall 10 13 rfl rfl (by rfl)
      have hc := (HCell.out wz hI.held).2.2
      refine ⟨by rfl, ?_⟩
      go_simp
      exact ⟨_, rfl, rfl, hI.held⟩
    | 12, hi =>
      obtain rfl := Option.some.inj hi
      have v0 : ac.tmps.getD 14 undef = .string nm := hI.at hall 11 14 rfl rfl (by rfl)
      refine ⟨by rfl, ?_⟩
      refine wp_convert_sb 9 45 5 (.tmp 14) rfl nm v0 Tryz.underlying9 Tryz.underlying45 Tryz.underlying5 ?_
      have bN : Below wz.heap.size wz (Go.Lib.bytesWorld wz 5 nm) := Go.Joins.below_bytesWorld _ wz _ nm (Nat.le_refl _)
      exact ⟨_, rfl, ⟨⟨_, _, rfl⟩, rd_bytesWorld wz nm HN.out⟩, hI.held.trans (bN.mono hI.held.size), VD.below bN⟩
    | 13, hi =>
      obtain rfl := Option.some.inj hi
      obtain ⟨⟨x0, y0, e0'⟩, q0⟩ : Sl 4 (le 4 ino) (ac.tmps.getD 5 undef) wz := hI.at hall 2 5 rfl rfl (by rfl)
      rw [e0'] at q0
      have Q0 := hide q0
      clear q0
      have n0 := e0'
      rw [Array.getD_eq_getD_getElem?] at n0
      obtain ⟨⟨x1, y1, e1'⟩, q1⟩ : Sl 1 (le 1 kd) (ac.tmps.getD 8 undef) wz := hI.at hall 5 8 rfl rfl (by rfl)
      rw [e1'] at q1
      have Q1 := hide q1
      clear q1
      have n1 := e1'
      rw [Array.getD_eq_getD_getElem?] at n1
      obtain ⟨⟨x2, y2, e2'⟩, q2⟩ : Sl 1 (le 1 nm.size) (ac.tmps.getD 12 undef) wz := hI.at hall 9 12 rfl rfl (by rfl)
      rw [e2'] at q2
      have Q2 := hide q2
      clear q2
      have n2 := e2'
      rw [Array.getD_eq_getD_getElem?] at n2
      obtain ⟨⟨x3, y3, e3'⟩, q3⟩ : Sl (nm.size) (strInts nm) (ac.tmps.getD 15 undef) wz := hI.at hall 12 15 rfl rfl (by rfl)
      rw [e3'] at q3
      have Q3 := hide q3
      clear q3
      have n3 := e3'
      rw [Array.getD_eq_getD_getElem?] at n3
      refine ⟨by rfl, ?_⟩
      go_simp
      have bN := (Below.refl wz.heap.size wz).alloc (Nat.le_refl _) (.cells #[.slice (some ⟨x0, 0, none⟩) 4 y0, .slice (some ⟨x1, 0, none⟩) 1 y1, .slice (some ⟨x2, 0, none⟩) 1 y2, .slice (some ⟨x3, 0, none⟩) (nm.size) y3] 45)
      have HV := hide (show VD w.heap.size w.heap.size ino kd nm 13 (.slice (some ⟨wz.heap.size, 0, none⟩) 4 4) (wz.alloc (.cells #[.slice (some ⟨x0, 0, none⟩) 4 y0, .slice (some ⟨x1, 0, none⟩) 1 y1, .slice (some ⟨x2, 0, none⟩) 1 y2, .slice (some ⟨x3, 0, none⟩) (nm.size) y3] 45)) from ⟨wz.heap.size, rfl, by simp, [.slice (some ⟨x0, 0, none⟩) 4 y0, .slice (some ⟨x1, 0, none⟩) 1 y1, .slice (some ⟨x2, 0, none⟩) 1 y2, .slice (some ⟨x3, 0, none⟩) (nm.size) y3], fun j u hu => by
        rw [cell_of_row _ _ j _ _ _ (heap_alloc_new wz _)]
        simpa using hu, Q0.out.below bN, Q1.out.below bN, Q2.out.below bN, Q3.out.below bN, trivial⟩)
      exact ⟨_, rfl, HV.out, hI.held.trans (bN.mono hI.held.size), VD.below bN⟩
    | 14, hi =>
      obtain rfl := Option.some.inj hi
      obtain ⟨g, e14, hg14, vs, hc14, ha14⟩ : VD w.heap.size w.heap.size ino kd nm 13 (ac.tmps.getD 16 undef) wz := hI.at hall 13 16 rfl rfl (by rfl)
      have HA14 := hide (And.intro hc14 ha14)
      clear hc14 ha14
      refine ⟨by rfl, ?_⟩
      go_simp
      refine (join_any g 4 4 vs ([le 4 ino, le 1 kd, le 1 nm.size, strInts nm] : List (List Int)) _ HA14.out.1 HA14.out.2 rfl (by omega) HPos.out.1 HPos.out.2 hg14).mono ?_
      rintro e w' ⟨vJ, rfl, oN, bN⟩
      exact ⟨_, rfl, Rd.own oN, hI.held.trans (bN.mono hI.held.size), VD.below bN⟩
    | 15, hi =>
      obtain rfl := Option.some.inj hi
      have v14 : Rd .u8 wz (ac.tmps.getD 17 undef) ([le 4 ino, le 1 kd, le 1 nm.size, strInts nm] : List (List Int)).flatten := hI.at hall 14 17 rfl rfl (by rfl)
      generalize hx : ac.tmps.getD 17 undef = x17 at v14
      have HV14 := hide v14
      clear v14
      refine ⟨by rfl, ?_⟩
      go_simp
      refine (fill_pos x17 _ 32 _ HV14.out (by rw [HFl.out]; omega) (by rw [HFl.out]; omega) (by omega)).mono ?_
      rintro e w' ⟨gN, cN, rfl, oN, bN⟩
      exact ⟨_, rfl, ⟨gN, cN, rfl, by rw [slotB_eq nm ino kd]; exact own_mono oN (Nat.le_trans (Nat.le_of_lt hlw) hI.held.size)⟩, hI.held.trans (bN.mono hI.held.size), VD.below bN⟩
    | 16, hi =>
      obtain rfl := Option.some.inj hi
      obtain ⟨g15, c15, e15, o15⟩ : VD w.heap.size w.heap.size ino kd nm 15 (ac.tmps.getD 18 undef) wz := hI.at hall 15 18 rfl rfl (by rfl)
      have HV15 := hide o15
      clear o15
      refine ⟨by rfl, ?_⟩
      go_simp
      exact ⟨_, rfl, ⟨g15, c15, rfl, by first | exact HV15.out | (rw [← e15]; exact HV15.out)⟩, hI.held⟩
    | i + 17, hi => cases hi
  case hfin =>
    intro listed ac wz hl hI
    refine NoPanic.normal ?_
    have r2 : VD w.heap.size w.heap.size ino kd nm 16 (ac.tmps.getD 2 undef) wz := hI.vals 16 _ 2 rfl (hl 16 (by decide)) rfl
    have hB2 := hI.held
    have hdf2 := hI.df
    clear hI hl
    go_wp2
    try simp only [Exit.inBlock, Exit.then]
    refine bodyPost_ret (results_tmp rfl _ _ _) hdf2 ?_
    exact ⟨_, rfl, r2, HBW.out.trans (hB2.mono HBW.out.size)⟩
end Go.Proofs.YtplieplmhdfndaaGreatDoor
