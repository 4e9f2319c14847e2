/- The model's directories: l06Slot. The model's directories: l06Entry. The model's directories: L06Entries. -/
import Derived.Test.YtcciaojdceejcaaDoorDirA
import Derived.Test.YtcciaojdceejcaaDoorJdA
import Derived.Test.YtcciaojdceejcaaDoorJdB
import Derived.Test.YtcciaojdceejcaaDoorGet
import Derived.Great.BuildSlice
import Derived.Great.FillDense
namespace Go.Proofs.YtcciaojdceejcaaDoor
set_option linter.unusedVariables false
set_option linter.unusedSimpArgs false
open Go.RowKit

/-- The bytes of an entry's slot. -/
def slotB (nm : ByteArray) (ino kd : Nat) : List Int := le 4 ino ++ (le 1 kd ++ (le 1 nm.size ++ (strInts nm ++ List.replicate (26 - nm.size) 0)))
theorem slotB_eq (nm : ByteArray) (ino kd : Nat) : slotB nm ino kd = ([le 4 ino, le 1 kd, le 1 nm.size, strInts nm] : List (List Int)).flatten ++ List.replicate (32 - ([le 4 ino, le 1 kd, le 1 nm.size, strInts nm] : List (List Int)).flatten.length) 0 := by
  have e : ([le 4 ino, le 1 kd, le 1 nm.size, strInts nm] : List (List Int)).flatten.length = 6 + nm.size := by
    simp only [List.flatten_cons, List.flatten_nil, List.length_append, List.length_nil, le_len, strInts_len]
    omega
  rw [e, show 32 - (6 + nm.size) = 26 - nm.size by omega]
  unfold slotB
  simp only [List.flatten_cons, List.flatten_nil, List.append_nil, List.append_assoc]
def Slo (B : Nat) (lst : List Int) (v : Value) (w : World) : Prop := ∃ g cp, v = .slice (some ⟨g, 0, none⟩) 32 cp ∧ w.ownsRow B 5 1 v 32 (lst.map (Value.int .u8))
/-- What the values of the region are. -/
def VD (B b ino kd : Nat) (nm : ByteArray) (i : Nat) (v : Value) (w : World) : Prop := match i with
  | 0 => v = .pointer (some ⟨b, 1, none⟩)
  | 1 => v = .int .i64 (ino : Int)
  | 2 => Sl 4 (le 4 ino) v w
  | 3 => v = .pointer (some ⟨b, 2, none⟩)
  | 4 => v = .int .i64 (kd : Int)
  | 5 => Sl 1 (le 1 kd) v w
  | 6 => v = .pointer (some ⟨b, 0, none⟩)
  | 7 => v = .string nm
  | 8 => v = .int .i64 (nm.size : Int)
  | 9 => Sl 1 (le 1 nm.size) v w
  | 10 => v = .pointer (some ⟨b, 0, none⟩)
  | 11 => v = .string nm
  | 12 => Sl nm.size (strInts nm) v w
  | 13 => ∃ g, v = .slice (some ⟨g, 0, none⟩) 4 4 ∧ g < w.heap.size ∧ ∃ vs, (∀ j u, vs[j]? = some u → w.cell? ⟨g, j, none⟩ = some u) ∧ AllRd w vs [le 4 ino, le 1 kd, le 1 nm.size, strInts nm]
  | 14 => Rd .u8 w v ([le 4 ino, le 1 kd, le 1 nm.size, strInts nm] : List (List Int)).flatten
  | 15 => Slo B (slotB nm ino kd) v w
  | 16 => Slo B (slotB nm ino kd) v w
  | _ => False
theorem VD.below {B b ino kd : Nat} {nm : ByteArray} {w w' : World} (hb : Below w.heap.size w w') : ∀ (j : Nat) (u : Value), VD B b ino kd nm j u w → VD B b ino kd nm j u w'
  | 0, _, h => h
  | 1, _, h => h
  | 2, _, h => Sl.below h hb
  | 3, _, h => h
  | 4, _, h => h
  | 5, _, h => Sl.below h hb
  | 6, _, h => h
  | 7, _, h => h
  | 8, _, h => h
  | 9, _, h => Sl.below h hb
  | 10, _, h => h
  | 11, _, h => h
  | 12, _, h => Sl.below h hb
  | 13, _, ⟨g, h1, h2, vs, h3, h4⟩ => ⟨g, h1, Nat.lt_of_lt_of_le h2 hb.size, vs, fun j u hu => (hb.cell (p := ⟨g, j, none⟩) h2).trans (h3 j u hu), h4.below hb⟩
  | 14, _, h => Rd.below h hb
  | 15, _, ⟨g, cp, h, ho⟩ => ⟨g, cp, h, own_below ho hb⟩
  | 16, _, ⟨g, cp, h, ho⟩ => ⟨g, cp, h, own_below ho hb⟩
  | _ + 17, _, h => h

set_option maxRecDepth 100000 in
set_option maxHeartbeats 2000000 in
theorem slot_any (nm : ByteArray) (ino kd : Nat) (w : World) (hn : nm.size ≤ 26) (hn0 : 0 < nm.size) (h1 : ino < 4294967296) (h2 : kd < 256) :
    Calls Tryd.prog 69 #[.agg (entC nm ino kd)] w fun e w' => ∃ v, e = .returned v ∧ Slo w.heap.size (slotB nm ino kd) v w' ∧ Below w.heap.size w w' := by
  have HN := hide (show nm.size ≤ maxLen from by unfold maxLen; omega)
  have HB := hide (show Below w.heap.size w (w.alloc (.cells (entC nm ino kd) 34)) from (Below.refl _ _).alloc (Nat.le_refl _) _)
  have KW := hide (Blk.new w (entC nm ino kd) 34)
  have HFl := hide (show ([le 4 ino, le 1 kd, le 1 nm.size, strInts nm] : List (List Int)).flatten.length = 6 + nm.size from by
    simp only [List.flatten_cons, List.flatten_nil, List.length_append, List.length_nil, le_len, strInts_len]
    omega)
  have HPos := hide (show (∀ b ∈ ([le 4 ino, le 1 kd, le 1 nm.size, strInts nm] : List (List Int)), 0 < b.length) ∧ ([le 4 ino, le 1 kd, le 1 nm.size, strInts nm] : List (List Int)).flatten.length ≤ 100000 from by
    constructor
    · intro b hb
      simp only [List.mem_cons, List.not_mem_nil, or_false] at hb
      rcases hb with rfl | rfl | rfl | rfl
      · rw [le_len]; omega
      · rw [le_len]; omega
      · rw [le_len]; omega
      · rw [strInts_len]; omega
    · rw [HFl.out]; omega)
  go_enter Tryd.func69, Tryd.ntmps69
  go_wp2_with fail
  obtain ⟨W, hW⟩ : ∃ W, W = w.alloc (.cells (entC nm ino kd) 34) := ⟨_, rfl⟩
  rw [← hW]
  have hlw : w.heap.size < W.heap.size := by rw [hW]; simp
  have HCell := hide (show ∀ w', Below W.heap.size W w' → w'.cell? ⟨w.heap.size, 1, none⟩ = some (.int .i64 (ino : Int)) ∧ w'.cell? ⟨w.heap.size, 2, none⟩ = some (.int .i64 (kd : Int)) ∧ w'.cell? ⟨w.heap.size, 0, none⟩ = some (.string nm) from fun w' h => by
    have k : Blk W w.heap.size (entC nm ino kd) 34 := by rw [hW]; exact KW.out
    exact ⟨(h.cell (p := ⟨w.heap.size, 1, none⟩) k.lt).trans ((k.cell 1).trans rfl), (h.cell (p := ⟨w.heap.size, 2, none⟩) k.lt).trans ((k.cell 2).trans rfl), (h.cell (p := ⟨w.heap.size, 0, none⟩) k.lt).trans ((k.cell 0).trans rfl)⟩)
  have HBW := hide (show Below w.heap.size w W from by rw [hW]; exact HB.out)
  clear hW HB KW
  refine wp_region_noPanic ?_
  refine wp_region_any (by kernel_rfl) ?_
  refine wpAny_invB [(1, .pointer (some ⟨w.heap.size, 0, none⟩))] (fun w' => Below W.heap.size W w') (VD w.heap.size w.heap.size ino kd nm) 19 [] (by kernel_rfl) ?hstep ?hfin _ _ (by rfl) (by rfl) ((Below.refl _ _).drew) (by intro t v h; simp at h; obtain ⟨rfl, rfl⟩ := h; rfl)
  case hstep =>
    intro i o listed ac wz hi hall hI
    have f1 : ac.tmps.getD 1 undef = .pointer (some ⟨w.heap.size, 0, none⟩) := hI.fix 1 _ (by simp)
    match i, hi with
    | 0, hi =>
      obtain rfl := Option.some.inj hi
      refine ⟨by rfl, ?_⟩
      go_simp
      exact ⟨_, rfl, rfl, hI.held⟩
    | 1, hi =>
      obtain rfl := Option.some.inj hi
      have v0 : ac.tmps.getD 3 undef = .pointer (some ⟨w.heap.size, 1, none⟩) := hI.at hall 0 3 rfl rfl (by rfl)
      have hc := (HCell.out wz hI.held).1
      refine ⟨by rfl, ?_⟩
      go_simp
      exact ⟨_, rfl, rfl, hI.held⟩
    | 2, hi =>
      obtain rfl := Option.some.inj hi
      have v0 : ac.tmps.getD 4 undef = .int .i64 (ino : Int) := hI.at hall 1 4 rfl rfl (by rfl)
      refine ⟨by rfl, ?_⟩
      go_simp
      refine (put_pos ino 4 _ (by omega) (by omega) (by omega)).mono ?_
      rintro e w' ⟨gN, cN, rfl, oN, bN⟩
      exact ⟨_, rfl, ⟨⟨_, _, rfl⟩, Rd.own oN⟩, hI.held.trans (bN.mono hI.held.size), VD.below bN⟩
    | 3, hi =>
      obtain rfl := Option.some.inj hi
      refine ⟨by rfl, ?_⟩
      go_simp
      exact ⟨_, rfl, rfl, hI.held⟩
    | 4, hi =>
      obtain rfl := Option.some.inj hi
      have v0 : ac.tmps.getD 6 undef = .pointer (some ⟨w.heap.size, 2, none⟩) := hI.at hall 3 6 rfl rfl (by rfl)
      have hc := (HCell.out wz hI.held).2.1
      refine ⟨by rfl, ?_⟩
      go_simp
      exact ⟨_, rfl, rfl, hI.held⟩
    | 5, hi =>
      obtain rfl := Option.some.inj hi
      have v0 : ac.tmps.getD 7 undef = .int .i64 (kd : Int) := hI.at hall 4 7 rfl rfl (by rfl)
      refine ⟨by rfl, ?_⟩
      go_simp
      refine (put_pos kd 1 _ (by omega) (by omega) (by omega)).mono ?_
      rintro e w' ⟨gN, cN, rfl, oN, bN⟩
      exact ⟨_, rfl, ⟨⟨_, _, rfl⟩, Rd.own oN⟩, hI.held.trans (bN.mono hI.held.size), VD.below bN⟩
    | 6, hi =>
      obtain rfl := Option.some.inj hi
      refine ⟨by rfl, ?_⟩
      go_simp
      exact ⟨_, rfl, rfl, hI.held⟩
    | 7, hi =>
      obtain rfl := Option.some.inj hi
      have v0 : ac.tmps.getD 9 undef = .pointer (some ⟨w.heap.size, 0, none⟩) := hI.at hall 6 9 rfl rfl (by rfl)
      have hc := (HCell.out wz hI.held).2.2
      refine ⟨by rfl, ?_⟩
      go_simp
      exact ⟨_, rfl, rfl, hI.held⟩
    | 8, hi =>
      obtain rfl := Option.some.inj hi
      have v0 : ac.tmps.getD 10 undef = .string nm := hI.at hall 7 10 rfl rfl (by rfl)
      refine ⟨by rfl, ?_⟩
      go_simp
      exact ⟨_, rfl, rfl, hI.held⟩
    | 9, hi =>
      obtain rfl := Option.some.inj hi
      have v0 : ac.tmps.getD 11 undef = .int .i64 (nm.size : Int) := hI.at hall 8 11 rfl rfl (by rfl)
      refine ⟨by rfl, ?_⟩
      go_simp
      refine (put_pos nm.size 1 _ (by omega) (by omega) (by omega)).mono ?_
      rintro e w' ⟨gN, cN, rfl, oN, bN⟩
      exact ⟨_, rfl, ⟨⟨_, _, rfl⟩, Rd.own oN⟩, hI.held.trans (bN.mono hI.held.size), VD.below bN⟩
    | 10, hi =>
      obtain rfl := Option.some.inj hi
      refine ⟨by rfl, ?_⟩
      go_simp
      exact ⟨_, rfl, rfl, hI.held⟩
    | 11, hi =>
      obtain rfl := Option.some.inj hi
      have v0 : ac.tmps.getD 13 undef = .pointer (some ⟨w.heap.size, 0, none⟩) := hI.at hall 10 13 rfl rfl (by rfl)
      have hc := (HCell.out wz hI.held).2.2
      refine ⟨by rfl, ?_⟩
      go_simp
      exact ⟨_, rfl, rfl, hI.held⟩
    | 12, hi =>
      obtain rfl := Option.some.inj hi
      have v0 : ac.tmps.getD 14 undef = .string nm := hI.at hall 11 14 rfl rfl (by rfl)
      refine ⟨by rfl, ?_⟩
      refine wp_convert_sb 9 22 5 (.tmp 14) rfl nm v0 Tryd.underlying9 Tryd.underlying22 Tryd.underlying5 ?_
      have bN : Below wz.heap.size wz (Go.Lib.bytesWorld wz 5 nm) := Go.Joins.below_bytesWorld _ wz _ nm (Nat.le_refl _)
      exact ⟨_, rfl, ⟨⟨_, _, rfl⟩, rd_bytesWorld wz nm HN.out⟩, hI.held.trans (bN.mono hI.held.size), VD.below bN⟩
    | 13, hi =>
      obtain rfl := Option.some.inj hi
      obtain ⟨⟨x0, y0, e0'⟩, q0⟩ : Sl 4 (le 4 ino) (ac.tmps.getD 5 undef) wz := hI.at hall 2 5 rfl rfl (by rfl)
      rw [e0'] at q0
      have Q0 := hide q0
      clear q0
      have n0 := e0'
      rw [Array.getD_eq_getD_getElem?] at n0
      obtain ⟨⟨x1, y1, e1'⟩, q1⟩ : Sl 1 (le 1 kd) (ac.tmps.getD 8 undef) wz := hI.at hall 5 8 rfl rfl (by rfl)
      rw [e1'] at q1
      have Q1 := hide q1
      clear q1
      have n1 := e1'
      rw [Array.getD_eq_getD_getElem?] at n1
      obtain ⟨⟨x2, y2, e2'⟩, q2⟩ : Sl 1 (le 1 nm.size) (ac.tmps.getD 12 undef) wz := hI.at hall 9 12 rfl rfl (by rfl)
      rw [e2'] at q2
      have Q2 := hide q2
      clear q2
      have n2 := e2'
      rw [Array.getD_eq_getD_getElem?] at n2
      obtain ⟨⟨x3, y3, e3'⟩, q3⟩ : Sl (nm.size) (strInts nm) (ac.tmps.getD 15 undef) wz := hI.at hall 12 15 rfl rfl (by rfl)
      rw [e3'] at q3
      have Q3 := hide q3
      clear q3
      have n3 := e3'
      rw [Array.getD_eq_getD_getElem?] at n3
      refine ⟨by rfl, ?_⟩
      go_simp
      have bN := (Below.refl wz.heap.size wz).alloc (Nat.le_refl _) (.cells #[.slice (some ⟨x0, 0, none⟩) 4 y0, .slice (some ⟨x1, 0, none⟩) 1 y1, .slice (some ⟨x2, 0, none⟩) 1 y2, .slice (some ⟨x3, 0, none⟩) (nm.size) y3] 22)
      have HV := hide (show VD w.heap.size w.heap.size ino kd nm 13 (.slice (some ⟨wz.heap.size, 0, none⟩) 4 4) (wz.alloc (.cells #[.slice (some ⟨x0, 0, none⟩) 4 y0, .slice (some ⟨x1, 0, none⟩) 1 y1, .slice (some ⟨x2, 0, none⟩) 1 y2, .slice (some ⟨x3, 0, none⟩) (nm.size) y3] 22)) from ⟨wz.heap.size, rfl, by simp, [.slice (some ⟨x0, 0, none⟩) 4 y0, .slice (some ⟨x1, 0, none⟩) 1 y1, .slice (some ⟨x2, 0, none⟩) 1 y2, .slice (some ⟨x3, 0, none⟩) (nm.size) y3], fun j u hu => by
        rw [cell_of_row _ _ j _ _ _ (heap_alloc_new wz _)]
        simpa using hu, Q0.out.below bN, Q1.out.below bN, Q2.out.below bN, Q3.out.below bN, trivial⟩)
      exact ⟨_, rfl, HV.out, hI.held.trans (bN.mono hI.held.size), VD.below bN⟩
    | 14, hi =>
      obtain rfl := Option.some.inj hi
      obtain ⟨g, e14, hg14, vs, hc14, ha14⟩ : VD w.heap.size w.heap.size ino kd nm 13 (ac.tmps.getD 16 undef) wz := hI.at hall 13 16 rfl rfl (by rfl)
      have HA14 := hide (And.intro hc14 ha14)
      clear hc14 ha14
      refine ⟨by rfl, ?_⟩
      go_simp
      refine (join_any g 4 4 vs ([le 4 ino, le 1 kd, le 1 nm.size, strInts nm] : List (List Int)) _ HA14.out.1 HA14.out.2 rfl (by omega) HPos.out.1 HPos.out.2 hg14).mono ?_
      rintro e w' ⟨vJ, rfl, oN, bN⟩
      exact ⟨_, rfl, Rd.own oN, hI.held.trans (bN.mono hI.held.size), VD.below bN⟩
    | 15, hi =>
      obtain rfl := Option.some.inj hi
      have v14 : Rd .u8 wz (ac.tmps.getD 17 undef) ([le 4 ino, le 1 kd, le 1 nm.size, strInts nm] : List (List Int)).flatten := hI.at hall 14 17 rfl rfl (by rfl)
      generalize hx : ac.tmps.getD 17 undef = x17 at v14
      have HV14 := hide v14
      clear v14
      refine ⟨by rfl, ?_⟩
      go_simp
      refine (fill_pos x17 _ 32 _ HV14.out (by rw [HFl.out]; omega) (by rw [HFl.out]; omega) (by omega)).mono ?_
      rintro e w' ⟨gN, cN, rfl, oN, bN⟩
      exact ⟨_, rfl, ⟨gN, cN, rfl, by rw [slotB_eq nm ino kd]; exact own_mono oN (Nat.le_trans (Nat.le_of_lt hlw) hI.held.size)⟩, hI.held.trans (bN.mono hI.held.size), VD.below bN⟩
    | 16, hi =>
      obtain rfl := Option.some.inj hi
      obtain ⟨g15, c15, e15, o15⟩ : VD w.heap.size w.heap.size ino kd nm 15 (ac.tmps.getD 18 undef) wz := hI.at hall 15 18 rfl rfl (by rfl)
      have HV15 := hide o15
      clear o15
      refine ⟨by rfl, ?_⟩
      go_simp
      exact ⟨_, rfl, ⟨g15, c15, rfl, by first | exact HV15.out | (rw [← e15]; exact HV15.out)⟩, hI.held⟩
    | i + 17, hi => cases hi
  case hfin =>
    intro listed ac wz hl hI
    refine NoPanic.normal ?_
    have r2 : VD w.heap.size w.heap.size ino kd nm 16 (ac.tmps.getD 2 undef) wz := hI.vals 16 _ 2 rfl (hl 16 (by decide)) rfl
    have hB2 := hI.held
    have hdf2 := hI.df
    clear hI hl
    go_wp2
    try simp only [Exit.inBlock, Exit.then]
    refine bodyPost_ret (results_tmp rfl _ _ _) hdf2 ?_
    exact ⟨_, rfl, r2, HBW.out.trans (hB2.mono HBW.out.size)⟩
end Go.Proofs.YtcciaojdceejcaaDoor

namespace Go.Proofs.YtcciaojdceejcaaDoor
set_option linter.unusedVariables false
set_option linter.unusedSimpArgs false
open Go.RowKit

theorem yieldsIf_conv {ops : Array Oper} {S : World → Prop} {o : Oper} {a : Act} (hw : Region.wanted o (yielded ops a.tmps) = true) (x : Operand) (ho : o.op = .convert 22 9 x) (v : Value) (hx : a.eval x = v) (xs : List Int) (hr : ∀ w, S w → Rd .u8 w v xs) : YieldsIf Tryd.prog ops S o (.string (strOfNums xs)) a := by
  refine Or.inl ⟨hw, fun w hS => ?_⟩
  unfold execOp
  simp only [ho, hx, Sem.run_bind, Sem.run_pure, Result.andThen_ok, conv_rd (hr w hS)]
theorem Rd.rowOther {w : World} {g4 n cp : Nat} {zs : List Int} (h : Rd .u8 w (.slice (some ⟨g4, 0, none⟩) n cp) zs) (g : Nat) (C : Array Value) (hne : g4 ≠ g) : Rd .u8 (w.setRow g C) (.slice (some ⟨g4, 0, none⟩) n cp) zs := by
  obtain ⟨a, cap, e, hm, hc, hcap⟩ := h
  refine ⟨a, cap, e, hm, fun hz => ?_, hcap⟩
  obtain ⟨b, off, ha, hlt, hcell⟩ := hc hz
  injection e with e1 _ _
  rw [ha] at e1
  injection e1 with e1
  injection e1 with e2 e3
  subst e2
  exact ⟨_, off, ha, by simpa [World.setRow] using hlt, fun i hi => (World.cell?_of_block (a := ⟨g4, off + i, none⟩) (setRow_block w g C g4 hne)).trans (hcell i hi)⟩
theorem wp_conv {o : Oper} {a : Act} {w : World} {K : Act → World → Prop} {Q : Exit → Act → World → Prop} (x : Operand) (ho : o.op = .convert 22 9 x) (v : Value) (hx : a.eval x = v) (xs : List Int) (hr : Rd .u8 w v xs)
    (h : K (a.put o.dst (.string (strOfNums xs))) w) : o.wp Tryd.prog a w K Q := by
  unfold Oper.wp execOp
  simp only [ho, hx, Sem.run_bind, Sem.run_pure, Result.andThen_ok, conv_rd hr]
  exact h
theorem le_bdD : ∀ (m n : Nat), ∀ z ∈ le m n, 0 ≤ z ∧ z < 256
  | 0, _, z, h => by simp [le] at h
  | m + 1, n, z, h => by
    rw [le] at h
    rcases List.mem_cons.mp h with rfl | h
    · omega
    · exact le_bdD m (n / 256) z h
theorem le_unleD : ∀ (ts : List Int), (∀ z ∈ ts, 0 ≤ z ∧ z < 256) → le ts.length (unle ts) = ts
  | [], _ => rfl
  | z :: ts, h => by
    have h1 := h z (by simp)
    have ih := le_unleD ts (fun y hy => h y (by simp [hy]))
    rw [List.length_cons, le, unle]
    obtain ⟨n, rfl⟩ := Int.eq_ofNat_of_zero_le h1.1
    have hn : n < 256 := by omega
    rw [Int.toNat_natCast, show (n + 256 * unle ts) % 256 = n from by omega, show (n + 256 * unle ts) / 256 = unle ts from by omega, ih]
theorem strInts_strOf : ∀ (xs : List Int), (∀ z ∈ xs, 0 ≤ z ∧ z < 256) → strInts (strOfNums xs) = xs
  | [], _ => rfl
  | x :: xs, h => by
    have h1 := h x (by simp)
    have ih := strInts_strOf xs (fun y hy => h y (by simp [hy]))
    unfold strInts at ih ⊢
    rw [strOfNums_data] at ih ⊢
    rw [List.map_cons, List.map_cons, ih]
    congr 1
    simp only [UInt8.toNat_ofNat']
    omega
theorem strOf_strInts (nm : ByteArray) : strOfNums (strInts nm) = nm := by
  unfold strOfNums strInts
  rw [List.map_map]
  have h : ((fun n : Int => UInt8.ofNat n.toNat) ∘ fun b : UInt8 => (b.toNat : Int)) = id := by
    funext b
    simp
  rw [h, List.map_id]
theorem strOf_injD {xs ys : List Int} (hx : ∀ z ∈ xs, 0 ≤ z ∧ z < 256) (hy : ∀ z ∈ ys, 0 ≤ z ∧ z < 256) (h : (strOfNums xs).toList = (strOfNums ys).toList) : xs = ys := by
  have h1 : strOfNums xs = strOfNums ys := by
    rw [ByteArray.toList_eq, ByteArray.toList_eq] at h
    have h2 : (strOfNums xs).data = (strOfNums ys).data := Array.toList_inj.mp h
    cases hx' : strOfNums xs
    cases hy' : strOfNums ys
    rw [hx', hy'] at h2
    simp at h2
    rw [h2]
  rw [← strInts_strOf xs hx, ← strInts_strOf ys hy, h1]
theorem sName_size {ps : List Int} (hl : ps.length = 32) (hL : sLen ps ≤ 26) : (sName ps).size = sLen ps := by
  unfold sName
  rw [strOfNums_size, List.length_take, List.length_drop, hl]
  omega
theorem cut_bd {ps : List Int} (hbd : ∀ z ∈ ps, 0 ≤ z ∧ z < 256) (lo n : Nat) : ∀ z ∈ (ps.drop lo).take n, 0 ≤ z ∧ z < 256 := fun z hz => hbd z (List.mem_of_mem_drop (List.mem_of_mem_take hz))
theorem slotB_self {ps : List Int} (hl : ps.length = 32) (hbd : ∀ z ∈ ps, 0 ≤ z ∧ z < 256) (hL : sLen ps ≤ 26) : slotB (sName ps) (sIno ps) (sKind ps) = ps ↔ sRest ps = true := by
  have e1 : le 4 (sIno ps) = ps.take 4 := by
    have h := le_unleD (ps.take 4) (fun z hz => hbd z (List.mem_of_mem_take hz))
    rw [List.length_take, hl] at h
    exact h
  have e2 : le 1 (sKind ps) = (ps.drop 4).take 1 := by
    have h := le_unleD ((ps.drop 4).take 1) (cut_bd hbd 4 1)
    rw [List.length_take, List.length_drop, hl] at h
    exact h
  have e3 : le 1 (sLen ps) = (ps.drop 5).take 1 := by
    have h := le_unleD ((ps.drop 5).take 1) (cut_bd hbd 5 1)
    rw [List.length_take, List.length_drop, hl] at h
    exact h
  have e4 : strInts (sName ps) = (ps.drop 6).take (sLen ps) := strInts_strOf _ (cut_bd hbd 6 _)
  have e5 : ps = ps.take 4 ++ ((ps.drop 4).take 1 ++ ((ps.drop 5).take 1 ++ ((ps.drop 6).take (sLen ps) ++ ps.drop (6 + sLen ps)))) := by
    have h := slot_four ps
    have h2 : (ps.drop 6).take (sLen ps) ++ ps.drop (6 + sLen ps) = ps.drop 6 := by rw [← List.drop_drop, List.take_append_drop]
    rw [h2]
    exact h
  have e6 : slotB (sName ps) (sIno ps) (sKind ps) = ps.take 4 ++ ((ps.drop 4).take 1 ++ ((ps.drop 5).take 1 ++ ((ps.drop 6).take (sLen ps) ++ List.replicate (26 - sLen ps) 0))) := by
    unfold slotB
    rw [sName_size hl hL, e1, e2, e3, e4]
  have e7 : slotB (sName ps) (sIno ps) (sKind ps) = ps ↔ List.replicate (26 - sLen ps) 0 = ps.drop (6 + sLen ps) := by
    constructor
    · intro h
      rw [e6] at h
      have h2 := h.trans e5
      rw [List.append_right_inj, List.append_right_inj, List.append_right_inj, List.append_right_inj] at h2
      exact h2
    · intro h
      rw [e6, h]
      exact e5.symm
  rw [e7]
  unfold sRest
  constructor
  · intro h
    rw [← h]
    simp
  · intro h
    symm
    rw [List.eq_replicate_iff]
    refine ⟨by rw [List.length_drop, hl]; omega, fun z hz => ?_⟩
    rw [List.all_eq_true] at h
    exact of_decide_eq_true (h z hz)
theorem sLen_get {ps : List Int} (hl : ps.length = 32) (hbd : ∀ z ∈ ps, 0 ≤ z ∧ z < 256) (k : Nat) (hk : k < 32) : ((unle ((ps.drop k).take 1) : Nat) : Int) = ps.getD k 0 := by
  have h : (ps.drop k).take 1 = [ps.getD k 0] := by
    have hk2 : k < ps.length := by omega
    rw [List.drop_eq_getElem_cons hk2, List.take_succ_cons, List.take_zero]
    simp [List.getD, hk2]
  have hb := hbd (ps.getD k 0) (by have hk2 : k < ps.length := by omega
                                   simp [List.getD, hk2])
  rw [h]
  simp only [unle]
  omega
theorem sRight_eq {ps : List Int} (hl : ps.length = 32) (hbd : ∀ z ∈ ps, 0 ≤ z ∧ z < 256) (hL : sLen ps ≤ 26) : sRight ps = ((wi (sIno ps) 1 1000 && wi (sKind ps) 1 3 && (Chk.chkS (sName ps) == 0)) && ((strOfNums (slotB (sName ps) (sIno ps) (sKind ps))).toList == (strOfNums ps).toList)) := by
  have hs : ((strOfNums (slotB (sName ps) (sIno ps) (sKind ps))).toList == (strOfNums ps).toList) = sRest ps := by
    have hbS : ∀ z ∈ slotB (sName ps) (sIno ps) (sKind ps), 0 ≤ z ∧ z < 256 := by
      intro z hz
      unfold slotB at hz
      simp only [List.mem_append] at hz
      rcases hz with hz | hz | hz | hz | hz
      · exact le_bdD _ _ z hz
      · exact le_bdD _ _ z hz
      · exact le_bdD _ _ z hz
      · exact strInts_bd _ z hz
      · rw [List.mem_replicate] at hz; omega
    cases h : sRest ps with
    | true => rw [(slotB_self hl hbd hL).mpr h]; simp
    | false =>
      rw [beq_eq_false_iff_ne]
      intro e
      rw [(slotB_self hl hbd hL).mp (strOf_injD hbS hbd e)] at h
      cases h
  rw [hs]
  unfold sRight
  rw [show decide (sLen ps ≤ 26) = true from by simpa using hL]
  simp only [Bool.true_and, Bool.and_assoc]
  generalize wi (sIno ps) 1 1000 = p1
  generalize wi (sKind ps) 1 3 = p2
  generalize (Chk.chkS (sName ps) == 0) = p3
  generalize sRest ps = p4
  cases p1 <;> cases p2 <;> cases p3 <;> cases p4 <;> rfl

set_option maxRecDepth 100000 in
set_option maxHeartbeats 1000000 in
theorem entry_any (b off cap : Nat) (ps : List Int) (w : World) (h : Rd .u8 w (.slice (some ⟨b, off, none⟩) 32 cap) ps) (hl : ps.length = 32) (hbd : ∀ z ∈ ps, 0 ≤ z ∧ z < 256) :
    Calls Tryd.prog 46 #[.slice (some ⟨b, off, none⟩) 32 cap] w fun e w' => ∃ nm ino kd, e = .returned (.tuple #[.agg (entC nm ino kd), .bool (sRight ps)]) ∧ (sRight ps = true → nm = sName ps ∧ ino = sIno ps ∧ kd = sKind ps) ∧ Below w.heap.size w w' := by
  have HRd := hide h
  have HX := hide (And.intro hl hbd)
  have hcells : b < w.heap.size ∧ 32 ≤ cap ∧ cap ≤ maxLen ∧ ∀ i, i < 32 → w.cell? ⟨b, off + i, none⟩ = some (.int .u8 (ps.getD i 0)) := by
    obtain ⟨a, cp, e, hm, hc, h1, h2⟩ := h
    injection e with e1 e2 e3
    subst e3
    have hne : ps ≠ [] := by intro e; rw [e] at hl; simp at hl
    obtain ⟨b', off', ea, hlt, hcell⟩ := hc hne
    rw [ea] at e1
    injection e1 with e1
    injection e1 with e4 e5
    subst e4 e5
    exact ⟨hlt, by omega, h2, fun i hi => hcell i (by omega)⟩
  obtain ⟨hbw, hcap, hcapm, hcell⟩ := hcells
  have HCl := hide hcell
  have g4 := sLen_get hl hbd 4 (by omega)
  have g5 := sLen_get hl hbd 5 (by omega)
  have h5 : (w.alloc (.cells #[.string ⟨#[]⟩, .int .i64 0, .int .i64 0] 34)).cell? ⟨b, off + 5, none⟩ = some (.int .u8 ((sLen ps : Nat) : Int)) := by
    rw [World.cell?_alloc_lt _ _ _ hbw, hcell 5 (by omega)]
    unfold sLen
    rw [g5]
  have h5b : sLen ps < 256 := by
    have := hbd (ps.getD 5 0) (by have hk2 : 5 < ps.length := by omega
                                  simp [List.getD, hk2])
    unfold sLen
    omega
  have h4b : sKind ps < 256 := by
    have := hbd (ps.getD 4 0) (by have hk2 : 4 < ps.length := by omega
                                  simp [List.getD, hk2])
    unfold sKind
    omega
  have h1b : sIno ps < 4294967296 := by
    have h := unle_lt (ps.take 4) (fun z hz => hbd z (List.mem_of_mem_take hz))
    rw [show (ps.take 4).length = 4 from by simp [hl]] at h
    exact h
  have HB0 := hide (show Below w.heap.size w (w.alloc (.cells #[.string ⟨#[]⟩, .int .i64 0, .int .i64 0] 34)) from (Below.refl _ _).alloc (Nat.le_refl _) _)
  have HRes := hide (Blk.new w #[.string ⟨#[]⟩, .int .i64 0, .int .i64 0] 34)
  have HG4 := hide (show ps.getD 4 0 = ((sKind ps : Nat) : Int) from g4.symm)
  have HG5 := hide (show ps.getD 5 0 = ((sLen ps : Nat) : Int) from g5.symm)
  have HK := hide (show sRight ps = true → sLen ps ≤ 26 from fun h => by
    simp only [sRight, Bool.and_eq_true, decide_eq_true_eq] at h
    exact h.1)
  have HEq := hide (fun h : sLen ps ≤ 26 => sRight_eq hl hbd h)
  have HGet := hide (show gval (ps.take 4) = sIno ps from gval_small _ (by show sIno ps < _; omega))
  have HNs := hide (fun h : sLen ps ≤ 26 => sName_size hl h)
  clear hl hbd h hcell g4 g5
  obtain ⟨x5, hx5⟩ : ∃ x5, x5 = sLen ps := ⟨_, rfl⟩
  obtain ⟨x4, hx4⟩ : ∃ x4, x4 = sKind ps := ⟨_, rfl⟩
  obtain ⟨x1, hx1⟩ : ∃ x1, x1 = sIno ps := ⟨_, rfl⟩
  rw [← hx5] at h5 h5b
  rw [← hx4] at h4b
  rw [← hx1] at h1b
  have HXs := hide (And.intro hx5 (And.intro hx4 hx1))
  clear hx5 hx4 hx1
  unfold maxLen at hcapm
  by_cases hL : x5 ≤ 26
  · have hLi : ¬ (26 : Int) < (x5 : Int) := by omega
    obtain ⟨nm, hnm⟩ : ∃ nm, nm = sName ps := ⟨_, rfl⟩
    have HNm := hide hnm
    have HNmE := hide (show strOfNums ((ps.drop 6).take x5) = nm from by rw [hnm, HXs.out.1]; rfl)
    clear hnm
    have HWr := hide (show IntKind.i64.wrap (x4 : Int) = (x4 : Int) ∧ IntKind.u8.wrap (6 + (x5 : Int)) = 6 + (x5 : Int) from ⟨by simp [IntKind.wrap, IntKind.bits, IntKind.signed, Int.bmod]; omega, by simp [IntKind.wrap, IntKind.bits, IntKind.signed]; omega⟩)
    go_enter Tryd.func46, Tryd.ntmps46
    go_wp2_with fail
    obtain ⟨W, hW⟩ : ∃ W, W = w.alloc (.cells #[.string ⟨#[]⟩, .int .i64 0, .int .i64 0] 34) := ⟨_, rfl⟩
    rw [← hW] at h5
    rw [← hW]
    have hlw : w.heap.size < W.heap.size := by rw [hW]; simp
    have HBW := hide (show Below w.heap.size w W from by rw [hW]; exact HB0.out)
    have HRW := hide (show Blk W w.heap.size #[.string ⟨#[]⟩, .int .i64 0, .int .i64 0] 34 from by rw [hW]; exact HRes.out)
    have hbW : b < W.heap.size := by omega
    clear hW HB0 HRes h5
    have HC := hide (show ∀ w', Below W.heap.size W w' → w'.cell? ⟨b, off + 4, none⟩ = some (.int .u8 (x4 : Int)) ∧ w'.cell? ⟨b, off + 5, none⟩ = some (.int .u8 (x5 : Int)) from fun w' h => by
      have k : ∀ i, i < 32 → w'.cell? ⟨b, off + i, none⟩ = some (.int .u8 (ps.getD i 0)) := fun i hi => (h.cell (p := ⟨b, off + i, none⟩) hbW).trans ((HBW.out.cell (p := ⟨b, off + i, none⟩) hbw).trans (HCl.out i hi))
      refine ⟨(k 4 (by omega)).trans (by rw [HG4.out, HXs.out.2.1]), (k 5 (by omega)).trans (by rw [HG5.out, HXs.out.1])⟩)
    have HCut := hide (show ∀ w', Below W.heap.size W w' → Rd .u8 w' (.slice (some ⟨b, off, none⟩) 4 cap) (ps.take 4) ∧ Rd .u8 w' (.slice (some ⟨b, off + 6, none⟩) x5 (cap - 6)) ((ps.drop 6).take x5) from fun w' h => by
      have k : ∀ i, i < 32 → w'.cell? ⟨b, off + i, none⟩ = some (.int .u8 (ps.getD i 0)) := fun i hi => (h.cell (p := ⟨b, off + i, none⟩) hbW).trans ((HBW.out.cell (p := ⟨b, off + i, none⟩) hbw).trans (HCl.out i hi))
      have hb' : b < w'.heap.size := Nat.lt_of_lt_of_le hbW h.size
      constructor
      · refine ⟨_, _, by rw [List.length_take, HX.out.1]; rfl, by rw [List.length_take, HX.out.1]; unfold maxLen; omega, fun _ => ⟨b, off, rfl, hb', fun i hi => ?_⟩, by rw [List.length_take, HX.out.1]; omega, by unfold maxLen; omega⟩
        rw [List.length_take, HX.out.1] at hi
        rw [k i (by omega)]
        simp [List.getD, show i < 4 by omega]
      · have e : ((ps.drop 6).take x5).length = x5 := by rw [List.length_take, List.length_drop, HX.out.1]; omega
        refine ⟨_, _, by rw [e], by rw [e]; unfold maxLen; omega, fun _ => ⟨b, off + 6, rfl, hb', fun i hi => ?_⟩, by rw [e]; omega, by unfold maxLen; omega⟩
        rw [e] at hi
        rw [Nat.add_assoc, k (6 + i) (by omega)]
        simp [List.getD, show i < x5 by omega])
    refine wp_region_noPanic ?_
    refine wp_region_held_drew (S := fun w' => Below W.heap.size W w') (by kernel_rfl) ((Below.refl _ _).drew) (fun hH => ?_)
    refine wpAnyH_take (i := 0) (oi := _) (v := (.slice (some ⟨b, off, none⟩) 32 cap)) rfl (by kernel_rfl) (by kernel_rfl) (by kernel_rfl) (fun _ _ _ h => h) (Or.inl ⟨by rfl, fun w' hw' => by go_simp⟩) hH ?_
    try simp only [Act.put, List.getElem_toArray, List.getElem_cons_zero, List.getElem_cons_succ, List.setIfInBounds_toArray, List.set_cons_zero, List.set_cons_succ]
    refine wpAnyH_take (i := 1) (oi := _) (v := (.slice (some ⟨b, off, none⟩) 4 cap)) rfl (by kernel_rfl) (by kernel_rfl) (by kernel_rfl) (fun _ _ _ h => h) (Or.inl ⟨by rfl, fun w' hw' => by go_simp; intro h; omega⟩) hH ?_
    try simp only [Act.put, List.getElem_toArray, List.getElem_cons_zero, List.getElem_cons_succ, List.setIfInBounds_toArray, List.set_cons_zero, List.set_cons_succ]
    refine wpAnyH_take (i := 3) (oi := _) (v := (.slice (some ⟨b, off, none⟩) 32 cap)) rfl (by kernel_rfl) (by kernel_rfl) (by kernel_rfl) (fun _ _ _ h => h) (Or.inl ⟨by rfl, fun w' hw' => by go_simp⟩) hH ?_
    try simp only [Act.put, List.getElem_toArray, List.getElem_cons_zero, List.getElem_cons_succ, List.setIfInBounds_toArray, List.set_cons_zero, List.set_cons_succ]
    refine wpAnyH_take (i := 4) (oi := _) (v := (.pointer (some ⟨b, off + 4, none⟩))) rfl (by kernel_rfl) (by kernel_rfl) (by kernel_rfl) (fun _ _ _ h => h) (Or.inl ⟨by rfl, fun w' hw' => by go_simp⟩) hH ?_
    try simp only [Act.put, List.getElem_toArray, List.getElem_cons_zero, List.getElem_cons_succ, List.setIfInBounds_toArray, List.set_cons_zero, List.set_cons_succ]
    refine wpAnyH_take (i := 5) (oi := _) (v := (.int .u8 (x4 : Int))) rfl (by kernel_rfl) (by kernel_rfl) (by kernel_rfl) (fun _ _ _ h => h) (Or.inl ⟨by rfl, fun w' hw' => by have hc := (HC.out w' hw').1; clear hw'; go_simp⟩) hH ?_
    try simp only [Act.put, List.getElem_toArray, List.getElem_cons_zero, List.getElem_cons_succ, List.setIfInBounds_toArray, List.set_cons_zero, List.set_cons_succ]
    refine wpAnyH_take (i := 6) (oi := _) (v := (.int .i64 (x4 : Int))) rfl (by kernel_rfl) (by kernel_rfl) (by kernel_rfl) (fun _ _ _ h => h) (Or.inl ⟨by rfl, fun w' hw' => by go_simp; exact HWr.out.1⟩) hH ?_
    try simp only [Act.put, List.getElem_toArray, List.getElem_cons_zero, List.getElem_cons_succ, List.setIfInBounds_toArray, List.set_cons_zero, List.set_cons_succ]
    refine wpAnyH_take (i := 7) (oi := _) (v := (.slice (some ⟨b, off, none⟩) 32 cap)) rfl (by kernel_rfl) (by kernel_rfl) (by kernel_rfl) (fun _ _ _ h => h) (Or.inl ⟨by rfl, fun w' hw' => by go_simp⟩) hH ?_
    try simp only [Act.put, List.getElem_toArray, List.getElem_cons_zero, List.getElem_cons_succ, List.setIfInBounds_toArray, List.set_cons_zero, List.set_cons_succ]
    refine wpAnyH_take (i := 8) (oi := _) (v := (.slice (some ⟨b, off, none⟩) 32 cap)) rfl (by kernel_rfl) (by kernel_rfl) (by kernel_rfl) (fun _ _ _ h => h) (Or.inl ⟨by rfl, fun w' hw' => by go_simp⟩) hH ?_
    try simp only [Act.put, List.getElem_toArray, List.getElem_cons_zero, List.getElem_cons_succ, List.setIfInBounds_toArray, List.set_cons_zero, List.set_cons_succ]
    refine wpAnyH_take (i := 9) (oi := _) (v := (.pointer (some ⟨b, off + 5, none⟩))) rfl (by kernel_rfl) (by kernel_rfl) (by kernel_rfl) (fun _ _ _ h => h) (Or.inl ⟨by rfl, fun w' hw' => by go_simp⟩) hH ?_
    try simp only [Act.put, List.getElem_toArray, List.getElem_cons_zero, List.getElem_cons_succ, List.setIfInBounds_toArray, List.set_cons_zero, List.set_cons_succ]
    refine wpAnyH_take (i := 10) (oi := _) (v := (.int .u8 (x5 : Int))) rfl (by kernel_rfl) (by kernel_rfl) (by kernel_rfl) (fun _ _ _ h => h) (Or.inl ⟨by rfl, fun w' hw' => by have hc := (HC.out w' hw').2; clear hw'; go_simp⟩) hH ?_
    try simp only [Act.put, List.getElem_toArray, List.getElem_cons_zero, List.getElem_cons_succ, List.setIfInBounds_toArray, List.set_cons_zero, List.set_cons_succ]
    refine wpAnyH_take (i := 11) (oi := _) (v := (.int .u8 (6 + (x5 : Int)))) rfl (by kernel_rfl) (by kernel_rfl) (by kernel_rfl) (fun _ _ _ h => h) (Or.inl ⟨by rfl, fun w' hw' => by go_simp; exact HWr.out.2⟩) hH ?_
    try simp only [Act.put, List.getElem_toArray, List.getElem_cons_zero, List.getElem_cons_succ, List.setIfInBounds_toArray, List.set_cons_zero, List.set_cons_succ]
    refine wpAnyH_take (i := 12) (oi := _) (v := (.slice (some ⟨b, off + 6, none⟩) x5 (cap - 6))) rfl (by kernel_rfl) (by kernel_rfl) (by kernel_rfl) (fun _ _ _ h => h) (Or.inl ⟨by rfl, fun w' hw' => by go_simp; rw [if_pos ⟨by omega, by omega⟩, if_pos (by omega), if_neg (by omega), show ((6 + (x5 : Int)).toNat - 6) = x5 from by omega]⟩) hH ?_
    try simp only [Act.put, List.getElem_toArray, List.getElem_cons_zero, List.getElem_cons_succ, List.setIfInBounds_toArray, List.set_cons_zero, List.set_cons_succ]
    refine wpAnyH_take (i := 13) (oi := _) (v := (.string (strOfNums ((ps.drop 6).take x5)))) rfl (by kernel_rfl) (by kernel_rfl) (by kernel_rfl) (fun _ _ _ h => h) (yieldsIf_conv (by rfl) _ rfl (.slice (some ⟨b, off + 6, none⟩) x5 (cap - 6)) rfl _ (fun w' h => (HCut.out w' h).2)) hH ?_
    try simp only [Act.put, List.getElem_toArray, List.getElem_cons_zero, List.getElem_cons_succ, List.setIfInBounds_toArray, List.set_cons_zero, List.set_cons_succ]
    rw [HNmE.out]
    have HEq2 := hide (show sRight ps = ((wi (x1 : Int) 1 1000 && wi (x4 : Int) 1 3 && (Chk.chkS nm == 0)) && ((strOfNums (slotB nm x1 x4)).toList == (strOfNums ps).toList)) from by rw [HNm.out, HXs.out.2.1, HXs.out.2.2]; exact HEq.out (by rw [← HXs.out.1]; exact hL))
    have HSm := hide (show nm.size ≤ maxLen from by rw [HNm.out, HNs.out (by rw [← HXs.out.1]; exact hL), ← HXs.out.1]; unfold maxLen; omega)
    refine wpAnyH_ready (rs := [2, 15]) (by kernel_rfl) (by simp) ?_
    refine AllReadyH.cons (o := _) rfl (fun K hK => ?_) (AllReadyH.cons (o := _) rfl (fun K hK => ?_) AllReadyH.nil)
    · go_simp
      refine (get_any _ (ps.take 4) _ (HCut.out _ hH).1 (by rw [List.length_take]; omega) (fun z hz => HX.out.2 z (List.mem_of_mem_take hz))).mono ?_
      rintro e w2 ⟨rfl, rfl⟩
      rw [HGet.out, ← HXs.out.2.2]
      refine hK.out _ _ hH (fun hH2 => ?_)
      clear hK K hH2
      try simp only [Act.put, List.getElem_toArray, List.getElem_cons_zero, List.getElem_cons_succ, List.setIfInBounds_toArray, List.set_cons_zero, List.set_cons_succ]
      refine wpAnyH_take (i := 14) (oi := _) (v := (.agg (entC nm x1 x4))) rfl (by kernel_rfl) (by kernel_rfl) (by kernel_rfl) (fun _ _ _ h => h) (Or.inl ⟨by rfl, fun w' hw' => by go_simp; rfl⟩) hH ?_
      try simp only [Act.put, List.getElem_toArray, List.getElem_cons_zero, List.getElem_cons_succ, List.setIfInBounds_toArray, List.set_cons_zero, List.set_cons_succ]
      refine wpAnyH_ready (rs := [15]) (by kernel_rfl) (by simp) ?_
      refine AllReadyH.cons (o := _) rfl (fun K hK => ?_) AllReadyH.nil
      go_simp
      refine hK.out _ _ (hH.alloc (by exact Nat.le_refl W.heap.size) _) (fun hHa => ?_)
      clear hK K hH
      have hH := hHa
      clear hHa
      try simp only [Act.put, List.getElem_toArray, List.getElem_cons_zero, List.getElem_cons_succ, List.setIfInBounds_toArray, List.set_cons_zero, List.set_cons_succ]
      refine wpAnyH_ready (rs := [16]) (by kernel_rfl) (by simp) ?_
      refine AllReadyH.cons (o := _) rfl (fun K hK => ?_) AllReadyH.nil
      rw [if_pos (by rfl)]
      refine wp_store_row 34 _ _ rfl W.heap.size (entC nm x1 x4) rfl rfl 34 #[.string ⟨#[]⟩, .int .i64 0, .int .i64 0] (Blk.new W _ _) infoD3 rfl entC_one ?_
      have bS : Below W.heap.size W (World.setRow (World.drew (W.alloc (.cells #[.string ⟨#[]⟩, .int .i64 0, .int .i64 0] 34))) W.heap.size (entC nm x1 x4)) := below_setRow hH (Nat.le_refl _) _
      have kS : Blk (World.setRow (World.drew (W.alloc (.cells #[.string ⟨#[]⟩, .int .i64 0, .int .i64 0] 34))) W.heap.size (entC nm x1 x4)) W.heap.size (entC nm x1 x4) 34 := Blk.row (w := World.drew (W.alloc (.cells #[.string ⟨#[]⟩, .int .i64 0, .int .i64 0] 34))) (Blk.new W _ _) _
      refine hK.out _ _ bS (fun hH9 => ?_)
      clear hK K
      try simp only [Act.put, List.getElem_toArray, List.getElem_cons_zero, List.getElem_cons_succ, List.setIfInBounds_toArray, List.set_cons_zero, List.set_cons_succ]
      obtain ⟨w3, hw3⟩ : ∃ w3, w3 = World.setRow (World.drew (W.alloc (.cells #[.string ⟨#[]⟩, .int .i64 0, .int .i64 0] 34))) W.heap.size (entC nm x1 x4) := ⟨_, rfl⟩
      rw [← hw3] at bS kS ⊢
      have H3 := hide (show Below w.heap.size w w3 ∧ Blk w3 W.heap.size (entC nm x1 x4) 34 ∧ Blk w3 w.heap.size #[.string ⟨#[]⟩, .int .i64 0, .int .i64 0] 34 from ⟨HBW.out.trans (bS.mono (by omega)), kS, HRW.out.below bS hlw⟩)
      refine wpAnyH_done (by kernel_rfl) (NoPanic.normal ?_) _
      clear hH hH9 bS kS hw3
      have c1 := (H3.out.2.1.cell 1).trans (show (entC nm x1 x4)[1]? = some (.int .i64 (x1 : Int)) from rfl)
      have c2 := (H3.out.2.1.cell 2).trans (show (entC nm x1 x4)[2]? = some (.int .i64 (x4 : Int)) from rfl)
      have c0 := (H3.out.2.1.cell 0).trans (show (entC nm x1 x4)[0]? = some (.string nm) from rfl)
      go_wp2_with (go_at_call 50; fail)
      refine (l02Within_any (x1 : Int) 1 1000 _).mono ?_
      rintro e w4 ⟨rfl, hw⟩
      subst hw
      rcases hb1 : wi (x1 : Int) 1 1000 with _ | _
      rotate_left
      go_wp2_with (go_at_call 50; fail)
      refine (l02Within_any (x4 : Int) 1 3 _).mono ?_
      rintro e w4 ⟨rfl, hw⟩
      subst hw
      rcases hb2 : wi (x4 : Int) 1 3 with _ | _
      rotate_left
      go_wp2_with (go_at_call 20; fail)
      refine (Chk.spec_any nm _ HSm.out).mono ?_
      rintro e w4 ⟨rfl, hw⟩
      have hw' := hw.symm
      clear hw
      subst hw'
      by_cases hk : Chk.chkS nm = 0
      · have HR := hide (show sRight ps = ((strOfNums (slotB nm x1 x4)).toList == (strOfNums ps).toList) from by rw [HEq2.out, hb1, hb2, hk]; simp)
        have HSz := hide (chk_size (nm := nm) (by rw [hk]; rfl))
        rw [hk]
        clear hk hb1 hb2
        go_wp2_with fail
        refine wp_region_noPanic ?_
        refine wp_region_held_drew (S := fun w' => Below w.heap.size w w' ∧ Blk w' W.heap.size (entC nm x1 x4) 34) (by kernel_rfl) ⟨H3.out.1.drew, H3.out.2.1⟩ (fun hH => ?_)
        refine wpAnyH_take (i := 0) (oi := _) (v := (.agg (entC nm x1 x4))) rfl (by kernel_rfl) (by kernel_rfl) (by kernel_rfl) (fun _ _ _ h => h) (yieldsIf_load_mid (by rfl) 34 _ rfl W.heap.size 0 rfl (entC nm x1 x4).toList _ (fun w' h => ent_range h.2) Tryd.underlying34 rfl infoD3) hH ?_
        try simp only [Act.put, List.getElem_toArray, List.getElem_cons_zero, List.getElem_cons_succ, List.setIfInBounds_toArray, List.set_cons_zero, List.set_cons_succ]
        refine wpAnyH_take (i := 1) (oi := _) (v := (.bool true)) rfl (by kernel_rfl) (by kernel_rfl) (by kernel_rfl) (fun _ _ _ h => h) (Or.inl ⟨by rfl, fun w' hw' => by go_simp⟩) hH ?_
        try simp only [Act.put, List.getElem_toArray, List.getElem_cons_zero, List.getElem_cons_succ, List.setIfInBounds_toArray, List.set_cons_zero, List.set_cons_succ]
        refine wpAnyH_take (i := 2) (oi := _) (v := (.bool true)) rfl (by kernel_rfl) (by kernel_rfl) (by kernel_rfl) (fun _ _ _ h => h) (Or.inl ⟨by rfl, fun w' hw' => by go_simp⟩) hH ?_
        try simp only [Act.put, List.getElem_toArray, List.getElem_cons_zero, List.getElem_cons_succ, List.setIfInBounds_toArray, List.set_cons_zero, List.set_cons_succ]
        refine wpAnyH_take (i := 3) (oi := _) (v := (.agg (entC nm x1 x4))) rfl (by kernel_rfl) (by kernel_rfl) (by kernel_rfl) (fun _ _ _ h => h) (yieldsIf_load_mid (by rfl) 34 _ rfl W.heap.size 0 rfl (entC nm x1 x4).toList _ (fun w' h => ent_range h.2) Tryd.underlying34 rfl infoD3) hH ?_
        try simp only [Act.put, List.getElem_toArray, List.getElem_cons_zero, List.getElem_cons_succ, List.setIfInBounds_toArray, List.set_cons_zero, List.set_cons_succ]
        refine wpAnyH_take (i := 6) (oi := _) (v := (.slice (some ⟨b, off, none⟩) 32 cap)) rfl (by kernel_rfl) (by kernel_rfl) (by kernel_rfl) (fun _ _ _ h => h) (Or.inl ⟨by rfl, fun w' hw' => by go_simp⟩) hH ?_
        try simp only [Act.put, List.getElem_toArray, List.getElem_cons_zero, List.getElem_cons_succ, List.setIfInBounds_toArray, List.set_cons_zero, List.set_cons_succ]
        refine wpAnyH_take (i := 7) (oi := _) (v := (.string (strOfNums ps))) rfl (by kernel_rfl) (by kernel_rfl) (by kernel_rfl) (fun _ _ _ h => h) (yieldsIf_conv (by rfl) _ rfl (.slice (some ⟨b, off, none⟩) 32 cap) rfl _ (fun w' h => HRd.out.below h.1)) hH ?_
        try simp only [Act.put, List.getElem_toArray, List.getElem_cons_zero, List.getElem_cons_succ, List.setIfInBounds_toArray, List.set_cons_zero, List.set_cons_succ]
        refine wpAnyH_ready (rs := [4]) (by kernel_rfl) (by simp) ?_
        refine AllReadyH.cons (o := _) rfl (fun K hK => ?_) AllReadyH.nil
        go_simp
        refine (slot_any nm x1 x4 _ HSz.out.1 HSz.out.2 h1b h4b).mono ?_
        rintro e w4 ⟨v4, rfl, ⟨g4, cp4, ev4, o4⟩, b4⟩
        have hb4 : Below w3.heap.size w3 w4 := ((Below.refl _ w3).drew).trans b4
        have HRZ := hide (show Blk w4 w.heap.size #[.string ⟨#[]⟩, .int .i64 0, .int .i64 0] 34 from H3.out.2.2.below hb4 H3.out.2.2.lt)
        subst ev4
        have R4 := hide (show Rd .u8 w4 (.slice (some ⟨g4, 0, none⟩) 32 cp4) (slotB nm x1 x4) from Rd.own (n := 32) o4)
        have hg4 : g4 ≠ w.heap.size := by
          have h1 := (o4.lt g4 rfl).1
          have h2 : w3.heap.size ≤ g4 := h1
          have h3 := H3.out.2.1.lt
          omega
        refine hK.out _ _ ⟨H3.out.1.trans (hb4.mono H3.out.1.size), H3.out.2.1.below hb4 H3.out.2.1.lt⟩ (fun hH4 => ?_)
        clear hK K hH o4 b4
        have hH := hH4
        clear hH4
        try simp only [Act.put, List.getElem_toArray, List.getElem_cons_zero, List.getElem_cons_succ, List.setIfInBounds_toArray, List.set_cons_zero, List.set_cons_succ]
        refine wpAnyH_ready (rs := [5, 10]) (by kernel_rfl) (by simp) ?_
        refine AllReadyH.cons (o := _) rfl (fun K hK => ?_) (AllReadyH.cons (o := _) rfl (fun K hK => ?_) AllReadyH.nil)
        · rw [if_pos (by rfl)]
          refine wp_conv _ rfl (.slice (some ⟨g4, 0, none⟩) 32 cp4) rfl (slotB nm x1 x4) R4.out ?_
          refine hK.out _ _ hH (fun hH5 => ?_)
          clear hK K hH5
          try simp only [Act.put, List.getElem_toArray, List.getElem_cons_zero, List.getElem_cons_succ, List.setIfInBounds_toArray, List.set_cons_zero, List.set_cons_succ]
          refine wpAnyH_take (i := 8) (oi := _) (v := (.bool ((strOfNums (slotB nm x1 x4)).toList == (strOfNums ps).toList))) rfl (by kernel_rfl) (by kernel_rfl) (by kernel_rfl) (fun _ _ _ h => h) (Or.inl ⟨by rfl, fun w' hw' => by go_simp⟩) hH ?_
          try simp only [Act.put, List.getElem_toArray, List.getElem_cons_zero, List.getElem_cons_succ, List.setIfInBounds_toArray, List.set_cons_zero, List.set_cons_succ]
          refine wpAnyH_take (i := 9) (oi := _) (v := (.bool ((strOfNums (slotB nm x1 x4)).toList == (strOfNums ps).toList))) rfl (by kernel_rfl) (by kernel_rfl) (by kernel_rfl) (fun _ _ _ h => h) (Or.inl ⟨by rfl, fun w' hw' => by go_simp⟩) hH ?_
          try simp only [Act.put, List.getElem_toArray, List.getElem_cons_zero, List.getElem_cons_succ, List.setIfInBounds_toArray, List.set_cons_zero, List.set_cons_succ]
          refine wpAnyH_ready (rs := [10]) (by kernel_rfl) (by simp) ?_
          refine AllReadyH.cons (o := _) rfl (fun K hK => ?_) AllReadyH.nil
          rw [if_pos (by rfl)]
          refine wp_store_row 34 _ _ rfl w.heap.size (entC nm x1 x4) rfl rfl 34 #[.string ⟨#[]⟩, .int .i64 0, .int .i64 0] HRZ.out infoD3 rfl entC_one ?_
          refine hK.out _ _ ⟨below_setRow hH.1 (Nat.le_refl _) _, (setRow_block _ _ _ _ (by omega)).trans hH.2⟩ (fun hH9 => ?_)
          have HRow := hide (HRZ.out.row (entC nm x1 x4))
          clear hK K
          try simp only [Act.put, List.getElem_toArray, List.getElem_cons_zero, List.getElem_cons_succ, List.setIfInBounds_toArray, List.set_cons_zero, List.set_cons_succ]
          refine wpAnyH_ready (rs := [11]) (by kernel_rfl) (by simp) ?_
          refine AllReadyH.cons (o := _) rfl (fun K hK => ?_) AllReadyH.nil
          go_simp
          refine hK.out _ _ hH9 (fun hH10 => ?_)
          clear hK K
          try simp only [Act.put, List.getElem_toArray, List.getElem_cons_zero, List.getElem_cons_succ, List.setIfInBounds_toArray, List.set_cons_zero, List.set_cons_succ]
          have HBel := hide hH10.1
          refine wpAnyH_done (by kernel_rfl) (NoPanic.normal ?_) _
          clear hH hH9 hH10
          go_wp2
          refine bodyPost_ret (v := .tuple #[.agg (entC nm x1 x4), .bool ((strOfNums (slotB nm x1 x4)).toList == (strOfNums ps).toList)]) (results_row_tmp rfl _ _ w.heap.size 34 (entC nm x1 x4) (0, 0) _ (.bool ((strOfNums (slotB nm x1 x4)).toList == (strOfNums ps).toList)) rfl rfl HRow.out Tryd.underlying34 rfl infoD3) rfl ?_
          exact ⟨nm, x1, x4, by rw [HR.out], fun _ => ⟨HNm.out, by rw [HXs.out.2.2], by rw [HXs.out.2.1]⟩, HBel.out⟩
        · rw [if_pos (by rfl)]
          refine wp_store_row 34 _ _ rfl w.heap.size (entC nm x1 x4) rfl rfl 34 #[.string ⟨#[]⟩, .int .i64 0, .int .i64 0] HRZ.out infoD3 rfl entC_one ?_
          refine hK.out _ _ ⟨below_setRow hH.1 (Nat.le_refl _) _, (setRow_block _ _ _ _ (by omega)).trans hH.2⟩ (fun hH9 => ?_)
          have HRow := hide (HRZ.out.row (entC nm x1 x4))
          clear hK K
          try simp only [Act.put, List.getElem_toArray, List.getElem_cons_zero, List.getElem_cons_succ, List.setIfInBounds_toArray, List.set_cons_zero, List.set_cons_succ]
          refine wpAnyH_ready (rs := [5]) (by kernel_rfl) (by simp) ?_
          refine AllReadyH.cons (o := _) rfl (fun K hK => ?_) AllReadyH.nil
          rw [if_pos (by rfl)]
          refine wp_conv _ rfl (.slice (some ⟨g4, 0, none⟩) 32 cp4) rfl (slotB nm x1 x4) (R4.out.rowOther _ _ hg4) ?_
          refine hK.out _ _ hH9 (fun hH5 => ?_)
          clear hK K hH5
          try simp only [Act.put, List.getElem_toArray, List.getElem_cons_zero, List.getElem_cons_succ, List.setIfInBounds_toArray, List.set_cons_zero, List.set_cons_succ]
          refine wpAnyH_take (i := 8) (oi := _) (v := (.bool ((strOfNums (slotB nm x1 x4)).toList == (strOfNums ps).toList))) rfl (by kernel_rfl) (by kernel_rfl) (by kernel_rfl) (fun _ _ _ h => h) (Or.inl ⟨by rfl, fun w' hw' => by go_simp⟩) hH9 ?_
          try simp only [Act.put, List.getElem_toArray, List.getElem_cons_zero, List.getElem_cons_succ, List.setIfInBounds_toArray, List.set_cons_zero, List.set_cons_succ]
          refine wpAnyH_take (i := 9) (oi := _) (v := (.bool ((strOfNums (slotB nm x1 x4)).toList == (strOfNums ps).toList))) rfl (by kernel_rfl) (by kernel_rfl) (by kernel_rfl) (fun _ _ _ h => h) (Or.inl ⟨by rfl, fun w' hw' => by go_simp⟩) hH9 ?_
          try simp only [Act.put, List.getElem_toArray, List.getElem_cons_zero, List.getElem_cons_succ, List.setIfInBounds_toArray, List.set_cons_zero, List.set_cons_succ]
          refine wpAnyH_ready (rs := [11]) (by kernel_rfl) (by simp) ?_
          refine AllReadyH.cons (o := _) rfl (fun K hK => ?_) AllReadyH.nil
          go_simp
          refine hK.out _ _ hH9 (fun hH10 => ?_)
          clear hK K
          try simp only [Act.put, List.getElem_toArray, List.getElem_cons_zero, List.getElem_cons_succ, List.setIfInBounds_toArray, List.set_cons_zero, List.set_cons_succ]
          have HBel := hide hH10.1
          refine wpAnyH_done (by kernel_rfl) (NoPanic.normal ?_) _
          clear hH hH9 hH10
          go_wp2
          refine bodyPost_ret (v := .tuple #[.agg (entC nm x1 x4), .bool ((strOfNums (slotB nm x1 x4)).toList == (strOfNums ps).toList)]) (results_row_tmp rfl _ _ w.heap.size 34 (entC nm x1 x4) (0, 0) _ (.bool ((strOfNums (slotB nm x1 x4)).toList == (strOfNums ps).toList)) rfl rfl HRow.out Tryd.underlying34 rfl infoD3) rfl ?_
          exact ⟨nm, x1, x4, by rw [HR.out], fun _ => ⟨HNm.out, by rw [HXs.out.2.2], by rw [HXs.out.2.1]⟩, HBel.out⟩
      · have HR := hide (show sRight ps = false from by rw [HEq2.out, show (Chk.chkS nm == 0) = false from by simpa using hk]; simp)
        generalize Chk.chkS nm = ck at hk
        clear hb1 hb2
        go_wp2_with fail
        refine wp_region_noPanic ?_
        refine wp_region_held_drew (S := fun w' => Below w.heap.size w w' ∧ Blk w' W.heap.size (entC nm x1 x4) 34) (by kernel_rfl) ⟨H3.out.1.drew, H3.out.2.1⟩ (fun hH => ?_)
        have HRZ := hide (show Blk (World.drew w3) w.heap.size #[.string ⟨#[]⟩, .int .i64 0, .int .i64 0] 34 from H3.out.2.2)
        refine wpAnyH_take (i := 0) (oi := _) (v := (.agg (entC nm x1 x4))) rfl (by kernel_rfl) (by kernel_rfl) (by kernel_rfl) (fun _ _ _ h => h) (yieldsIf_load_mid (by rfl) 34 _ rfl W.heap.size 0 rfl (entC nm x1 x4).toList _ (fun w' h => ent_range h.2) Tryd.underlying34 rfl infoD3) hH ?_
        try simp only [Act.put, List.getElem_toArray, List.getElem_cons_zero, List.getElem_cons_succ, List.setIfInBounds_toArray, List.set_cons_zero, List.set_cons_succ]
        refine wpAnyH_take (i := 1) (oi := _) (v := (.bool false)) rfl (by kernel_rfl) (by kernel_rfl) (by kernel_rfl) (fun _ _ _ h => h) (Or.inl ⟨by rfl, fun w' hw' => by go_simp⟩) hH ?_
        try simp only [Act.put, List.getElem_toArray, List.getElem_cons_zero, List.getElem_cons_succ, List.setIfInBounds_toArray, List.set_cons_zero, List.set_cons_succ]
        refine wpAnyH_take (i := 2) (oi := _) (v := (.bool false)) rfl (by kernel_rfl) (by kernel_rfl) (by kernel_rfl) (fun _ _ _ h => h) (Or.inl ⟨by rfl, fun w' hw' => by go_simp⟩) hH ?_
        try simp only [Act.put, List.getElem_toArray, List.getElem_cons_zero, List.getElem_cons_succ, List.setIfInBounds_toArray, List.set_cons_zero, List.set_cons_succ]
        refine wpAnyH_take (i := 3) (oi := _) (v := undef) rfl (by kernel_rfl) (by kernel_rfl) (by kernel_rfl) (fun _ _ _ h => h) (Or.inr ⟨by rfl, rfl⟩) hH ?_
        try simp only [Act.put, List.getElem_toArray, List.getElem_cons_zero, List.getElem_cons_succ, List.setIfInBounds_toArray, List.set_cons_zero, List.set_cons_succ]
        refine wpAnyH_take (i := 4) (oi := _) (v := undef) rfl (by kernel_rfl) (by kernel_rfl) (by kernel_rfl) (fun _ _ _ h => h) (Or.inr ⟨by rfl, rfl⟩) hH ?_
        try simp only [Act.put, List.getElem_toArray, List.getElem_cons_zero, List.getElem_cons_succ, List.setIfInBounds_toArray, List.set_cons_zero, List.set_cons_succ]
        refine wpAnyH_take (i := 5) (oi := _) (v := undef) rfl (by kernel_rfl) (by kernel_rfl) (by kernel_rfl) (fun _ _ _ h => h) (Or.inr ⟨by rfl, rfl⟩) hH ?_
        try simp only [Act.put, List.getElem_toArray, List.getElem_cons_zero, List.getElem_cons_succ, List.setIfInBounds_toArray, List.set_cons_zero, List.set_cons_succ]
        refine wpAnyH_take (i := 6) (oi := _) (v := undef) rfl (by kernel_rfl) (by kernel_rfl) (by kernel_rfl) (fun _ _ _ h => h) (Or.inr ⟨by rfl, rfl⟩) hH ?_
        try simp only [Act.put, List.getElem_toArray, List.getElem_cons_zero, List.getElem_cons_succ, List.setIfInBounds_toArray, List.set_cons_zero, List.set_cons_succ]
        refine wpAnyH_take (i := 7) (oi := _) (v := undef) rfl (by kernel_rfl) (by kernel_rfl) (by kernel_rfl) (fun _ _ _ h => h) (Or.inr ⟨by rfl, rfl⟩) hH ?_
        try simp only [Act.put, List.getElem_toArray, List.getElem_cons_zero, List.getElem_cons_succ, List.setIfInBounds_toArray, List.set_cons_zero, List.set_cons_succ]
        refine wpAnyH_take (i := 8) (oi := _) (v := undef) rfl (by kernel_rfl) (by kernel_rfl) (by kernel_rfl) (fun _ _ _ h => h) (Or.inr ⟨by rfl, rfl⟩) hH ?_
        try simp only [Act.put, List.getElem_toArray, List.getElem_cons_zero, List.getElem_cons_succ, List.setIfInBounds_toArray, List.set_cons_zero, List.set_cons_succ]
        refine wpAnyH_take (i := 9) (oi := _) (v := (.bool false)) rfl (by kernel_rfl) (by kernel_rfl) (by kernel_rfl) (fun _ _ _ h => h) (Or.inl ⟨by rfl, fun w' hw' => by go_simp⟩) hH ?_
        try simp only [Act.put, List.getElem_toArray, List.getElem_cons_zero, List.getElem_cons_succ, List.setIfInBounds_toArray, List.set_cons_zero, List.set_cons_succ]
        refine wpAnyH_ready (rs := [10]) (by kernel_rfl) (by simp) ?_
        refine AllReadyH.cons (o := _) rfl (fun K hK => ?_) AllReadyH.nil
        rw [if_pos (by rfl)]
        refine wp_store_row 34 _ _ rfl w.heap.size (entC nm x1 x4) rfl rfl 34 #[.string ⟨#[]⟩, .int .i64 0, .int .i64 0] HRZ.out infoD3 rfl entC_one ?_
        refine hK.out _ _ ⟨below_setRow hH.1 (Nat.le_refl _) _, (setRow_block _ _ _ _ (by omega)).trans hH.2⟩ (fun hH9 => ?_)
        have HRow := hide (HRZ.out.row (entC nm x1 x4))
        clear hK K
        try simp only [Act.put, List.getElem_toArray, List.getElem_cons_zero, List.getElem_cons_succ, List.setIfInBounds_toArray, List.set_cons_zero, List.set_cons_succ]
        refine wpAnyH_ready (rs := [11]) (by kernel_rfl) (by simp) ?_
        refine AllReadyH.cons (o := _) rfl (fun K hK => ?_) AllReadyH.nil
        go_simp
        refine hK.out _ _ hH9 (fun hH10 => ?_)
        clear hK K
        try simp only [Act.put, List.getElem_toArray, List.getElem_cons_zero, List.getElem_cons_succ, List.setIfInBounds_toArray, List.set_cons_zero, List.set_cons_succ]
        have HBel := hide hH10.1
        refine wpAnyH_done (by kernel_rfl) (NoPanic.normal ?_) _
        clear hH hH9 hH10
        go_wp2
        refine bodyPost_ret (v := .tuple #[.agg (entC nm x1 x4), .bool false]) (results_row_tmp rfl _ _ w.heap.size 34 (entC nm x1 x4) (0, 0) _ (.bool false) rfl rfl HRow.out Tryd.underlying34 rfl infoD3) rfl ?_
        exact ⟨nm, x1, x4, by rw [HR.out], fun _ => ⟨HNm.out, by rw [HXs.out.2.2], by rw [HXs.out.2.1]⟩, HBel.out⟩
      · have HR := hide (show sRight ps = false from by rw [HEq2.out, hb1]; simp)
        clear hb1
        go_wp2_with fail
        refine wp_region_noPanic ?_
        refine wp_region_held_drew (S := fun w' => Below w.heap.size w w' ∧ Blk w' W.heap.size (entC nm x1 x4) 34) (by kernel_rfl) ⟨H3.out.1.drew, H3.out.2.1⟩ (fun hH => ?_)
        have HRZ := hide (show Blk (World.drew w3) w.heap.size #[.string ⟨#[]⟩, .int .i64 0, .int .i64 0] 34 from H3.out.2.2)
        refine wpAnyH_take (i := 0) (oi := _) (v := (.agg (entC nm x1 x4))) rfl (by kernel_rfl) (by kernel_rfl) (by kernel_rfl) (fun _ _ _ h => h) (yieldsIf_load_mid (by rfl) 34 _ rfl W.heap.size 0 rfl (entC nm x1 x4).toList _ (fun w' h => ent_range h.2) Tryd.underlying34 rfl infoD3) hH ?_
        try simp only [Act.put, List.getElem_toArray, List.getElem_cons_zero, List.getElem_cons_succ, List.setIfInBounds_toArray, List.set_cons_zero, List.set_cons_succ]
        refine wpAnyH_take (i := 1) (oi := _) (v := (.bool false)) rfl (by kernel_rfl) (by kernel_rfl) (by kernel_rfl) (fun _ _ _ h => h) (Or.inl ⟨by rfl, fun w' hw' => by go_simp⟩) hH ?_
        try simp only [Act.put, List.getElem_toArray, List.getElem_cons_zero, List.getElem_cons_succ, List.setIfInBounds_toArray, List.set_cons_zero, List.set_cons_succ]
        refine wpAnyH_take (i := 2) (oi := _) (v := (.bool false)) rfl (by kernel_rfl) (by kernel_rfl) (by kernel_rfl) (fun _ _ _ h => h) (Or.inl ⟨by rfl, fun w' hw' => by go_simp⟩) hH ?_
        try simp only [Act.put, List.getElem_toArray, List.getElem_cons_zero, List.getElem_cons_succ, List.setIfInBounds_toArray, List.set_cons_zero, List.set_cons_succ]
        refine wpAnyH_take (i := 3) (oi := _) (v := undef) rfl (by kernel_rfl) (by kernel_rfl) (by kernel_rfl) (fun _ _ _ h => h) (Or.inr ⟨by rfl, rfl⟩) hH ?_
        try simp only [Act.put, List.getElem_toArray, List.getElem_cons_zero, List.getElem_cons_succ, List.setIfInBounds_toArray, List.set_cons_zero, List.set_cons_succ]
        refine wpAnyH_take (i := 4) (oi := _) (v := undef) rfl (by kernel_rfl) (by kernel_rfl) (by kernel_rfl) (fun _ _ _ h => h) (Or.inr ⟨by rfl, rfl⟩) hH ?_
        try simp only [Act.put, List.getElem_toArray, List.getElem_cons_zero, List.getElem_cons_succ, List.setIfInBounds_toArray, List.set_cons_zero, List.set_cons_succ]
        refine wpAnyH_take (i := 5) (oi := _) (v := undef) rfl (by kernel_rfl) (by kernel_rfl) (by kernel_rfl) (fun _ _ _ h => h) (Or.inr ⟨by rfl, rfl⟩) hH ?_
        try simp only [Act.put, List.getElem_toArray, List.getElem_cons_zero, List.getElem_cons_succ, List.setIfInBounds_toArray, List.set_cons_zero, List.set_cons_succ]
        refine wpAnyH_take (i := 6) (oi := _) (v := undef) rfl (by kernel_rfl) (by kernel_rfl) (by kernel_rfl) (fun _ _ _ h => h) (Or.inr ⟨by rfl, rfl⟩) hH ?_
        try simp only [Act.put, List.getElem_toArray, List.getElem_cons_zero, List.getElem_cons_succ, List.setIfInBounds_toArray, List.set_cons_zero, List.set_cons_succ]
        refine wpAnyH_take (i := 7) (oi := _) (v := undef) rfl (by kernel_rfl) (by kernel_rfl) (by kernel_rfl) (fun _ _ _ h => h) (Or.inr ⟨by rfl, rfl⟩) hH ?_
        try simp only [Act.put, List.getElem_toArray, List.getElem_cons_zero, List.getElem_cons_succ, List.setIfInBounds_toArray, List.set_cons_zero, List.set_cons_succ]
        refine wpAnyH_take (i := 8) (oi := _) (v := undef) rfl (by kernel_rfl) (by kernel_rfl) (by kernel_rfl) (fun _ _ _ h => h) (Or.inr ⟨by rfl, rfl⟩) hH ?_
        try simp only [Act.put, List.getElem_toArray, List.getElem_cons_zero, List.getElem_cons_succ, List.setIfInBounds_toArray, List.set_cons_zero, List.set_cons_succ]
        refine wpAnyH_take (i := 9) (oi := _) (v := (.bool false)) rfl (by kernel_rfl) (by kernel_rfl) (by kernel_rfl) (fun _ _ _ h => h) (Or.inl ⟨by rfl, fun w' hw' => by go_simp⟩) hH ?_
        try simp only [Act.put, List.getElem_toArray, List.getElem_cons_zero, List.getElem_cons_succ, List.setIfInBounds_toArray, List.set_cons_zero, List.set_cons_succ]
        refine wpAnyH_ready (rs := [10]) (by kernel_rfl) (by simp) ?_
        refine AllReadyH.cons (o := _) rfl (fun K hK => ?_) AllReadyH.nil
        rw [if_pos (by rfl)]
        refine wp_store_row 34 _ _ rfl w.heap.size (entC nm x1 x4) rfl rfl 34 #[.string ⟨#[]⟩, .int .i64 0, .int .i64 0] HRZ.out infoD3 rfl entC_one ?_
        refine hK.out _ _ ⟨below_setRow hH.1 (Nat.le_refl _) _, (setRow_block _ _ _ _ (by omega)).trans hH.2⟩ (fun hH9 => ?_)
        have HRow := hide (HRZ.out.row (entC nm x1 x4))
        clear hK K
        try simp only [Act.put, List.getElem_toArray, List.getElem_cons_zero, List.getElem_cons_succ, List.setIfInBounds_toArray, List.set_cons_zero, List.set_cons_succ]
        refine wpAnyH_ready (rs := [11]) (by kernel_rfl) (by simp) ?_
        refine AllReadyH.cons (o := _) rfl (fun K hK => ?_) AllReadyH.nil
        go_simp
        refine hK.out _ _ hH9 (fun hH10 => ?_)
        clear hK K
        try simp only [Act.put, List.getElem_toArray, List.getElem_cons_zero, List.getElem_cons_succ, List.setIfInBounds_toArray, List.set_cons_zero, List.set_cons_succ]
        have HBel := hide hH10.1
        refine wpAnyH_done (by kernel_rfl) (NoPanic.normal ?_) _
        clear hH hH9 hH10
        go_wp2
        refine bodyPost_ret (v := .tuple #[.agg (entC nm x1 x4), .bool false]) (results_row_tmp rfl _ _ w.heap.size 34 (entC nm x1 x4) (0, 0) _ (.bool false) rfl rfl HRow.out Tryd.underlying34 rfl infoD3) rfl ?_
        exact ⟨nm, x1, x4, by rw [HR.out], fun _ => ⟨HNm.out, by rw [HXs.out.2.2], by rw [HXs.out.2.1]⟩, HBel.out⟩
      · have HR := hide (show sRight ps = false from by rw [HEq2.out, hb2]; simp)
        clear hb1 hb2
        go_wp2_with fail
        refine wp_region_noPanic ?_
        refine wp_region_held_drew (S := fun w' => Below w.heap.size w w' ∧ Blk w' W.heap.size (entC nm x1 x4) 34) (by kernel_rfl) ⟨H3.out.1.drew, H3.out.2.1⟩ (fun hH => ?_)
        have HRZ := hide (show Blk (World.drew w3) w.heap.size #[.string ⟨#[]⟩, .int .i64 0, .int .i64 0] 34 from H3.out.2.2)
        refine wpAnyH_take (i := 0) (oi := _) (v := (.agg (entC nm x1 x4))) rfl (by kernel_rfl) (by kernel_rfl) (by kernel_rfl) (fun _ _ _ h => h) (yieldsIf_load_mid (by rfl) 34 _ rfl W.heap.size 0 rfl (entC nm x1 x4).toList _ (fun w' h => ent_range h.2) Tryd.underlying34 rfl infoD3) hH ?_
        try simp only [Act.put, List.getElem_toArray, List.getElem_cons_zero, List.getElem_cons_succ, List.setIfInBounds_toArray, List.set_cons_zero, List.set_cons_succ]
        refine wpAnyH_take (i := 1) (oi := _) (v := (.bool false)) rfl (by kernel_rfl) (by kernel_rfl) (by kernel_rfl) (fun _ _ _ h => h) (Or.inl ⟨by rfl, fun w' hw' => by go_simp⟩) hH ?_
        try simp only [Act.put, List.getElem_toArray, List.getElem_cons_zero, List.getElem_cons_succ, List.setIfInBounds_toArray, List.set_cons_zero, List.set_cons_succ]
        refine wpAnyH_take (i := 2) (oi := _) (v := (.bool false)) rfl (by kernel_rfl) (by kernel_rfl) (by kernel_rfl) (fun _ _ _ h => h) (Or.inl ⟨by rfl, fun w' hw' => by go_simp⟩) hH ?_
        try simp only [Act.put, List.getElem_toArray, List.getElem_cons_zero, List.getElem_cons_succ, List.setIfInBounds_toArray, List.set_cons_zero, List.set_cons_succ]
        refine wpAnyH_take (i := 3) (oi := _) (v := undef) rfl (by kernel_rfl) (by kernel_rfl) (by kernel_rfl) (fun _ _ _ h => h) (Or.inr ⟨by rfl, rfl⟩) hH ?_
        try simp only [Act.put, List.getElem_toArray, List.getElem_cons_zero, List.getElem_cons_succ, List.setIfInBounds_toArray, List.set_cons_zero, List.set_cons_succ]
        refine wpAnyH_take (i := 4) (oi := _) (v := undef) rfl (by kernel_rfl) (by kernel_rfl) (by kernel_rfl) (fun _ _ _ h => h) (Or.inr ⟨by rfl, rfl⟩) hH ?_
        try simp only [Act.put, List.getElem_toArray, List.getElem_cons_zero, List.getElem_cons_succ, List.setIfInBounds_toArray, List.set_cons_zero, List.set_cons_succ]
        refine wpAnyH_take (i := 5) (oi := _) (v := undef) rfl (by kernel_rfl) (by kernel_rfl) (by kernel_rfl) (fun _ _ _ h => h) (Or.inr ⟨by rfl, rfl⟩) hH ?_
        try simp only [Act.put, List.getElem_toArray, List.getElem_cons_zero, List.getElem_cons_succ, List.setIfInBounds_toArray, List.set_cons_zero, List.set_cons_succ]
        refine wpAnyH_take (i := 6) (oi := _) (v := undef) rfl (by kernel_rfl) (by kernel_rfl) (by kernel_rfl) (fun _ _ _ h => h) (Or.inr ⟨by rfl, rfl⟩) hH ?_
        try simp only [Act.put, List.getElem_toArray, List.getElem_cons_zero, List.getElem_cons_succ, List.setIfInBounds_toArray, List.set_cons_zero, List.set_cons_succ]
        refine wpAnyH_take (i := 7) (oi := _) (v := undef) rfl (by kernel_rfl) (by kernel_rfl) (by kernel_rfl) (fun _ _ _ h => h) (Or.inr ⟨by rfl, rfl⟩) hH ?_
        try simp only [Act.put, List.getElem_toArray, List.getElem_cons_zero, List.getElem_cons_succ, List.setIfInBounds_toArray, List.set_cons_zero, List.set_cons_succ]
        refine wpAnyH_take (i := 8) (oi := _) (v := undef) rfl (by kernel_rfl) (by kernel_rfl) (by kernel_rfl) (fun _ _ _ h => h) (Or.inr ⟨by rfl, rfl⟩) hH ?_
        try simp only [Act.put, List.getElem_toArray, List.getElem_cons_zero, List.getElem_cons_succ, List.setIfInBounds_toArray, List.set_cons_zero, List.set_cons_succ]
        refine wpAnyH_take (i := 9) (oi := _) (v := (.bool false)) rfl (by kernel_rfl) (by kernel_rfl) (by kernel_rfl) (fun _ _ _ h => h) (Or.inl ⟨by rfl, fun w' hw' => by go_simp⟩) hH ?_
        try simp only [Act.put, List.getElem_toArray, List.getElem_cons_zero, List.getElem_cons_succ, List.setIfInBounds_toArray, List.set_cons_zero, List.set_cons_succ]
        refine wpAnyH_ready (rs := [10]) (by kernel_rfl) (by simp) ?_
        refine AllReadyH.cons (o := _) rfl (fun K hK => ?_) AllReadyH.nil
        rw [if_pos (by rfl)]
        refine wp_store_row 34 _ _ rfl w.heap.size (entC nm x1 x4) rfl rfl 34 #[.string ⟨#[]⟩, .int .i64 0, .int .i64 0] HRZ.out infoD3 rfl entC_one ?_
        refine hK.out _ _ ⟨below_setRow hH.1 (Nat.le_refl _) _, (setRow_block _ _ _ _ (by omega)).trans hH.2⟩ (fun hH9 => ?_)
        have HRow := hide (HRZ.out.row (entC nm x1 x4))
        clear hK K
        try simp only [Act.put, List.getElem_toArray, List.getElem_cons_zero, List.getElem_cons_succ, List.setIfInBounds_toArray, List.set_cons_zero, List.set_cons_succ]
        refine wpAnyH_ready (rs := [11]) (by kernel_rfl) (by simp) ?_
        refine AllReadyH.cons (o := _) rfl (fun K hK => ?_) AllReadyH.nil
        go_simp
        refine hK.out _ _ hH9 (fun hH10 => ?_)
        clear hK K
        try simp only [Act.put, List.getElem_toArray, List.getElem_cons_zero, List.getElem_cons_succ, List.setIfInBounds_toArray, List.set_cons_zero, List.set_cons_succ]
        have HBel := hide hH10.1
        refine wpAnyH_done (by kernel_rfl) (NoPanic.normal ?_) _
        clear hH hH9 hH10
        go_wp2
        refine bodyPost_ret (v := .tuple #[.agg (entC nm x1 x4), .bool false]) (results_row_tmp rfl _ _ w.heap.size 34 (entC nm x1 x4) (0, 0) _ (.bool false) rfl rfl HRow.out Tryd.underlying34 rfl infoD3) rfl ?_
        exact ⟨nm, x1, x4, by rw [HR.out], fun _ => ⟨HNm.out, by rw [HXs.out.2.2], by rw [HXs.out.2.1]⟩, HBel.out⟩
    · go_simp
      refine hK.out _ _ (hH.alloc (by exact Nat.le_refl W.heap.size) _) (fun hHa => ?_)
      clear hK K hH
      have hH := hHa
      clear hHa
      try simp only [Act.put, List.getElem_toArray, List.getElem_cons_zero, List.getElem_cons_succ, List.setIfInBounds_toArray, List.set_cons_zero, List.set_cons_succ]
      refine wpAnyH_ready (rs := [2]) (by kernel_rfl) (by simp) ?_
      refine AllReadyH.cons (o := _) rfl (fun K hK => ?_) AllReadyH.nil
      go_simp
      refine (get_any _ (ps.take 4) _ (HCut.out _ hH).1 (by rw [List.length_take]; omega) (fun z hz => HX.out.2 z (List.mem_of_mem_take hz))).mono ?_
      rintro e w2 ⟨rfl, rfl⟩
      rw [HGet.out, ← HXs.out.2.2]
      refine hK.out _ _ hH (fun hH2 => ?_)
      clear hK K hH2
      try simp only [Act.put, List.getElem_toArray, List.getElem_cons_zero, List.getElem_cons_succ, List.setIfInBounds_toArray, List.set_cons_zero, List.set_cons_succ]
      refine wpAnyH_take (i := 14) (oi := _) (v := (.agg (entC nm x1 x4))) rfl (by kernel_rfl) (by kernel_rfl) (by kernel_rfl) (fun _ _ _ h => h) (Or.inl ⟨by rfl, fun w' hw' => by go_simp; rfl⟩) hH ?_
      try simp only [Act.put, List.getElem_toArray, List.getElem_cons_zero, List.getElem_cons_succ, List.setIfInBounds_toArray, List.set_cons_zero, List.set_cons_succ]
      refine wpAnyH_ready (rs := [16]) (by kernel_rfl) (by simp) ?_
      refine AllReadyH.cons (o := _) rfl (fun K hK => ?_) AllReadyH.nil
      rw [if_pos (by rfl)]
      refine wp_store_row 34 _ _ rfl W.heap.size (entC nm x1 x4) rfl rfl 34 #[.string ⟨#[]⟩, .int .i64 0, .int .i64 0] (Blk.new W _ _) infoD3 rfl entC_one ?_
      have bS : Below W.heap.size W (World.setRow (World.drew (W.alloc (.cells #[.string ⟨#[]⟩, .int .i64 0, .int .i64 0] 34))) W.heap.size (entC nm x1 x4)) := below_setRow hH (Nat.le_refl _) _
      have kS : Blk (World.setRow (World.drew (W.alloc (.cells #[.string ⟨#[]⟩, .int .i64 0, .int .i64 0] 34))) W.heap.size (entC nm x1 x4)) W.heap.size (entC nm x1 x4) 34 := Blk.row (w := World.drew (W.alloc (.cells #[.string ⟨#[]⟩, .int .i64 0, .int .i64 0] 34))) (Blk.new W _ _) _
      refine hK.out _ _ bS (fun hH9 => ?_)
      clear hK K
      try simp only [Act.put, List.getElem_toArray, List.getElem_cons_zero, List.getElem_cons_succ, List.setIfInBounds_toArray, List.set_cons_zero, List.set_cons_succ]
      obtain ⟨w3, hw3⟩ : ∃ w3, w3 = World.setRow (World.drew (W.alloc (.cells #[.string ⟨#[]⟩, .int .i64 0, .int .i64 0] 34))) W.heap.size (entC nm x1 x4) := ⟨_, rfl⟩
      rw [← hw3] at bS kS ⊢
      have H3 := hide (show Below w.heap.size w w3 ∧ Blk w3 W.heap.size (entC nm x1 x4) 34 ∧ Blk w3 w.heap.size #[.string ⟨#[]⟩, .int .i64 0, .int .i64 0] 34 from ⟨HBW.out.trans (bS.mono (by omega)), kS, HRW.out.below bS hlw⟩)
      refine wpAnyH_done (by kernel_rfl) (NoPanic.normal ?_) _
      clear hH hH9 bS kS hw3
      have c1 := (H3.out.2.1.cell 1).trans (show (entC nm x1 x4)[1]? = some (.int .i64 (x1 : Int)) from rfl)
      have c2 := (H3.out.2.1.cell 2).trans (show (entC nm x1 x4)[2]? = some (.int .i64 (x4 : Int)) from rfl)
      have c0 := (H3.out.2.1.cell 0).trans (show (entC nm x1 x4)[0]? = some (.string nm) from rfl)
      go_wp2_with (go_at_call 50; fail)
      refine (l02Within_any (x1 : Int) 1 1000 _).mono ?_
      rintro e w4 ⟨rfl, hw⟩
      subst hw
      rcases hb1 : wi (x1 : Int) 1 1000 with _ | _
      rotate_left
      go_wp2_with (go_at_call 50; fail)
      refine (l02Within_any (x4 : Int) 1 3 _).mono ?_
      rintro e w4 ⟨rfl, hw⟩
      subst hw
      rcases hb2 : wi (x4 : Int) 1 3 with _ | _
      rotate_left
      go_wp2_with (go_at_call 20; fail)
      refine (Chk.spec_any nm _ HSm.out).mono ?_
      rintro e w4 ⟨rfl, hw⟩
      have hw' := hw.symm
      clear hw
      subst hw'
      by_cases hk : Chk.chkS nm = 0
      · have HR := hide (show sRight ps = ((strOfNums (slotB nm x1 x4)).toList == (strOfNums ps).toList) from by rw [HEq2.out, hb1, hb2, hk]; simp)
        have HSz := hide (chk_size (nm := nm) (by rw [hk]; rfl))
        rw [hk]
        clear hk hb1 hb2
        go_wp2_with fail
        refine wp_region_noPanic ?_
        refine wp_region_held_drew (S := fun w' => Below w.heap.size w w' ∧ Blk w' W.heap.size (entC nm x1 x4) 34) (by kernel_rfl) ⟨H3.out.1.drew, H3.out.2.1⟩ (fun hH => ?_)
        refine wpAnyH_take (i := 0) (oi := _) (v := (.agg (entC nm x1 x4))) rfl (by kernel_rfl) (by kernel_rfl) (by kernel_rfl) (fun _ _ _ h => h) (yieldsIf_load_mid (by rfl) 34 _ rfl W.heap.size 0 rfl (entC nm x1 x4).toList _ (fun w' h => ent_range h.2) Tryd.underlying34 rfl infoD3) hH ?_
        try simp only [Act.put, List.getElem_toArray, List.getElem_cons_zero, List.getElem_cons_succ, List.setIfInBounds_toArray, List.set_cons_zero, List.set_cons_succ]
        refine wpAnyH_take (i := 1) (oi := _) (v := (.bool true)) rfl (by kernel_rfl) (by kernel_rfl) (by kernel_rfl) (fun _ _ _ h => h) (Or.inl ⟨by rfl, fun w' hw' => by go_simp⟩) hH ?_
        try simp only [Act.put, List.getElem_toArray, List.getElem_cons_zero, List.getElem_cons_succ, List.setIfInBounds_toArray, List.set_cons_zero, List.set_cons_succ]
        refine wpAnyH_take (i := 2) (oi := _) (v := (.bool true)) rfl (by kernel_rfl) (by kernel_rfl) (by kernel_rfl) (fun _ _ _ h => h) (Or.inl ⟨by rfl, fun w' hw' => by go_simp⟩) hH ?_
        try simp only [Act.put, List.getElem_toArray, List.getElem_cons_zero, List.getElem_cons_succ, List.setIfInBounds_toArray, List.set_cons_zero, List.set_cons_succ]
        refine wpAnyH_take (i := 3) (oi := _) (v := (.agg (entC nm x1 x4))) rfl (by kernel_rfl) (by kernel_rfl) (by kernel_rfl) (fun _ _ _ h => h) (yieldsIf_load_mid (by rfl) 34 _ rfl W.heap.size 0 rfl (entC nm x1 x4).toList _ (fun w' h => ent_range h.2) Tryd.underlying34 rfl infoD3) hH ?_
        try simp only [Act.put, List.getElem_toArray, List.getElem_cons_zero, List.getElem_cons_succ, List.setIfInBounds_toArray, List.set_cons_zero, List.set_cons_succ]
        refine wpAnyH_take (i := 6) (oi := _) (v := (.slice (some ⟨b, off, none⟩) 32 cap)) rfl (by kernel_rfl) (by kernel_rfl) (by kernel_rfl) (fun _ _ _ h => h) (Or.inl ⟨by rfl, fun w' hw' => by go_simp⟩) hH ?_
        try simp only [Act.put, List.getElem_toArray, List.getElem_cons_zero, List.getElem_cons_succ, List.setIfInBounds_toArray, List.set_cons_zero, List.set_cons_succ]
        refine wpAnyH_take (i := 7) (oi := _) (v := (.string (strOfNums ps))) rfl (by kernel_rfl) (by kernel_rfl) (by kernel_rfl) (fun _ _ _ h => h) (yieldsIf_conv (by rfl) _ rfl (.slice (some ⟨b, off, none⟩) 32 cap) rfl _ (fun w' h => HRd.out.below h.1)) hH ?_
        try simp only [Act.put, List.getElem_toArray, List.getElem_cons_zero, List.getElem_cons_succ, List.setIfInBounds_toArray, List.set_cons_zero, List.set_cons_succ]
        refine wpAnyH_ready (rs := [4]) (by kernel_rfl) (by simp) ?_
        refine AllReadyH.cons (o := _) rfl (fun K hK => ?_) AllReadyH.nil
        go_simp
        refine (slot_any nm x1 x4 _ HSz.out.1 HSz.out.2 h1b h4b).mono ?_
        rintro e w4 ⟨v4, rfl, ⟨g4, cp4, ev4, o4⟩, b4⟩
        have hb4 : Below w3.heap.size w3 w4 := ((Below.refl _ w3).drew).trans b4
        have HRZ := hide (show Blk w4 w.heap.size #[.string ⟨#[]⟩, .int .i64 0, .int .i64 0] 34 from H3.out.2.2.below hb4 H3.out.2.2.lt)
        subst ev4
        have R4 := hide (show Rd .u8 w4 (.slice (some ⟨g4, 0, none⟩) 32 cp4) (slotB nm x1 x4) from Rd.own (n := 32) o4)
        have hg4 : g4 ≠ w.heap.size := by
          have h1 := (o4.lt g4 rfl).1
          have h2 : w3.heap.size ≤ g4 := h1
          have h3 := H3.out.2.1.lt
          omega
        refine hK.out _ _ ⟨H3.out.1.trans (hb4.mono H3.out.1.size), H3.out.2.1.below hb4 H3.out.2.1.lt⟩ (fun hH4 => ?_)
        clear hK K hH o4 b4
        have hH := hH4
        clear hH4
        try simp only [Act.put, List.getElem_toArray, List.getElem_cons_zero, List.getElem_cons_succ, List.setIfInBounds_toArray, List.set_cons_zero, List.set_cons_succ]
        refine wpAnyH_ready (rs := [5, 10]) (by kernel_rfl) (by simp) ?_
        refine AllReadyH.cons (o := _) rfl (fun K hK => ?_) (AllReadyH.cons (o := _) rfl (fun K hK => ?_) AllReadyH.nil)
        · rw [if_pos (by rfl)]
          refine wp_conv _ rfl (.slice (some ⟨g4, 0, none⟩) 32 cp4) rfl (slotB nm x1 x4) R4.out ?_
          refine hK.out _ _ hH (fun hH5 => ?_)
          clear hK K hH5
          try simp only [Act.put, List.getElem_toArray, List.getElem_cons_zero, List.getElem_cons_succ, List.setIfInBounds_toArray, List.set_cons_zero, List.set_cons_succ]
          refine wpAnyH_take (i := 8) (oi := _) (v := (.bool ((strOfNums (slotB nm x1 x4)).toList == (strOfNums ps).toList))) rfl (by kernel_rfl) (by kernel_rfl) (by kernel_rfl) (fun _ _ _ h => h) (Or.inl ⟨by rfl, fun w' hw' => by go_simp⟩) hH ?_
          try simp only [Act.put, List.getElem_toArray, List.getElem_cons_zero, List.getElem_cons_succ, List.setIfInBounds_toArray, List.set_cons_zero, List.set_cons_succ]
          refine wpAnyH_take (i := 9) (oi := _) (v := (.bool ((strOfNums (slotB nm x1 x4)).toList == (strOfNums ps).toList))) rfl (by kernel_rfl) (by kernel_rfl) (by kernel_rfl) (fun _ _ _ h => h) (Or.inl ⟨by rfl, fun w' hw' => by go_simp⟩) hH ?_
          try simp only [Act.put, List.getElem_toArray, List.getElem_cons_zero, List.getElem_cons_succ, List.setIfInBounds_toArray, List.set_cons_zero, List.set_cons_succ]
          refine wpAnyH_ready (rs := [10]) (by kernel_rfl) (by simp) ?_
          refine AllReadyH.cons (o := _) rfl (fun K hK => ?_) AllReadyH.nil
          rw [if_pos (by rfl)]
          refine wp_store_row 34 _ _ rfl w.heap.size (entC nm x1 x4) rfl rfl 34 #[.string ⟨#[]⟩, .int .i64 0, .int .i64 0] HRZ.out infoD3 rfl entC_one ?_
          refine hK.out _ _ ⟨below_setRow hH.1 (Nat.le_refl _) _, (setRow_block _ _ _ _ (by omega)).trans hH.2⟩ (fun hH9 => ?_)
          have HRow := hide (HRZ.out.row (entC nm x1 x4))
          clear hK K
          try simp only [Act.put, List.getElem_toArray, List.getElem_cons_zero, List.getElem_cons_succ, List.setIfInBounds_toArray, List.set_cons_zero, List.set_cons_succ]
          refine wpAnyH_ready (rs := [11]) (by kernel_rfl) (by simp) ?_
          refine AllReadyH.cons (o := _) rfl (fun K hK => ?_) AllReadyH.nil
          go_simp
          refine hK.out _ _ hH9 (fun hH10 => ?_)
          clear hK K
          try simp only [Act.put, List.getElem_toArray, List.getElem_cons_zero, List.getElem_cons_succ, List.setIfInBounds_toArray, List.set_cons_zero, List.set_cons_succ]
          have HBel := hide hH10.1
          refine wpAnyH_done (by kernel_rfl) (NoPanic.normal ?_) _
          clear hH hH9 hH10
          go_wp2
          refine bodyPost_ret (v := .tuple #[.agg (entC nm x1 x4), .bool ((strOfNums (slotB nm x1 x4)).toList == (strOfNums ps).toList)]) (results_row_tmp rfl _ _ w.heap.size 34 (entC nm x1 x4) (0, 0) _ (.bool ((strOfNums (slotB nm x1 x4)).toList == (strOfNums ps).toList)) rfl rfl HRow.out Tryd.underlying34 rfl infoD3) rfl ?_
          exact ⟨nm, x1, x4, by rw [HR.out], fun _ => ⟨HNm.out, by rw [HXs.out.2.2], by rw [HXs.out.2.1]⟩, HBel.out⟩
        · rw [if_pos (by rfl)]
          refine wp_store_row 34 _ _ rfl w.heap.size (entC nm x1 x4) rfl rfl 34 #[.string ⟨#[]⟩, .int .i64 0, .int .i64 0] HRZ.out infoD3 rfl entC_one ?_
          refine hK.out _ _ ⟨below_setRow hH.1 (Nat.le_refl _) _, (setRow_block _ _ _ _ (by omega)).trans hH.2⟩ (fun hH9 => ?_)
          have HRow := hide (HRZ.out.row (entC nm x1 x4))
          clear hK K
          try simp only [Act.put, List.getElem_toArray, List.getElem_cons_zero, List.getElem_cons_succ, List.setIfInBounds_toArray, List.set_cons_zero, List.set_cons_succ]
          refine wpAnyH_ready (rs := [5]) (by kernel_rfl) (by simp) ?_
          refine AllReadyH.cons (o := _) rfl (fun K hK => ?_) AllReadyH.nil
          rw [if_pos (by rfl)]
          refine wp_conv _ rfl (.slice (some ⟨g4, 0, none⟩) 32 cp4) rfl (slotB nm x1 x4) (R4.out.rowOther _ _ hg4) ?_
          refine hK.out _ _ hH9 (fun hH5 => ?_)
          clear hK K hH5
          try simp only [Act.put, List.getElem_toArray, List.getElem_cons_zero, List.getElem_cons_succ, List.setIfInBounds_toArray, List.set_cons_zero, List.set_cons_succ]
          refine wpAnyH_take (i := 8) (oi := _) (v := (.bool ((strOfNums (slotB nm x1 x4)).toList == (strOfNums ps).toList))) rfl (by kernel_rfl) (by kernel_rfl) (by kernel_rfl) (fun _ _ _ h => h) (Or.inl ⟨by rfl, fun w' hw' => by go_simp⟩) hH9 ?_
          try simp only [Act.put, List.getElem_toArray, List.getElem_cons_zero, List.getElem_cons_succ, List.setIfInBounds_toArray, List.set_cons_zero, List.set_cons_succ]
          refine wpAnyH_take (i := 9) (oi := _) (v := (.bool ((strOfNums (slotB nm x1 x4)).toList == (strOfNums ps).toList))) rfl (by kernel_rfl) (by kernel_rfl) (by kernel_rfl) (fun _ _ _ h => h) (Or.inl ⟨by rfl, fun w' hw' => by go_simp⟩) hH9 ?_
          try simp only [Act.put, List.getElem_toArray, List.getElem_cons_zero, List.getElem_cons_succ, List.setIfInBounds_toArray, List.set_cons_zero, List.set_cons_succ]
          refine wpAnyH_ready (rs := [11]) (by kernel_rfl) (by simp) ?_
          refine AllReadyH.cons (o := _) rfl (fun K hK => ?_) AllReadyH.nil
          go_simp
          refine hK.out _ _ hH9 (fun hH10 => ?_)
          clear hK K
          try simp only [Act.put, List.getElem_toArray, List.getElem_cons_zero, List.getElem_cons_succ, List.setIfInBounds_toArray, List.set_cons_zero, List.set_cons_succ]
          have HBel := hide hH10.1
          refine wpAnyH_done (by kernel_rfl) (NoPanic.normal ?_) _
          clear hH hH9 hH10
          go_wp2
          refine bodyPost_ret (v := .tuple #[.agg (entC nm x1 x4), .bool ((strOfNums (slotB nm x1 x4)).toList == (strOfNums ps).toList)]) (results_row_tmp rfl _ _ w.heap.size 34 (entC nm x1 x4) (0, 0) _ (.bool ((strOfNums (slotB nm x1 x4)).toList == (strOfNums ps).toList)) rfl rfl HRow.out Tryd.underlying34 rfl infoD3) rfl ?_
          exact ⟨nm, x1, x4, by rw [HR.out], fun _ => ⟨HNm.out, by rw [HXs.out.2.2], by rw [HXs.out.2.1]⟩, HBel.out⟩
      · have HR := hide (show sRight ps = false from by rw [HEq2.out, show (Chk.chkS nm == 0) = false from by simpa using hk]; simp)
        generalize Chk.chkS nm = ck at hk
        clear hb1 hb2
        go_wp2_with fail
        refine wp_region_noPanic ?_
        refine wp_region_held_drew (S := fun w' => Below w.heap.size w w' ∧ Blk w' W.heap.size (entC nm x1 x4) 34) (by kernel_rfl) ⟨H3.out.1.drew, H3.out.2.1⟩ (fun hH => ?_)
        have HRZ := hide (show Blk (World.drew w3) w.heap.size #[.string ⟨#[]⟩, .int .i64 0, .int .i64 0] 34 from H3.out.2.2)
        refine wpAnyH_take (i := 0) (oi := _) (v := (.agg (entC nm x1 x4))) rfl (by kernel_rfl) (by kernel_rfl) (by kernel_rfl) (fun _ _ _ h => h) (yieldsIf_load_mid (by rfl) 34 _ rfl W.heap.size 0 rfl (entC nm x1 x4).toList _ (fun w' h => ent_range h.2) Tryd.underlying34 rfl infoD3) hH ?_
        try simp only [Act.put, List.getElem_toArray, List.getElem_cons_zero, List.getElem_cons_succ, List.setIfInBounds_toArray, List.set_cons_zero, List.set_cons_succ]
        refine wpAnyH_take (i := 1) (oi := _) (v := (.bool false)) rfl (by kernel_rfl) (by kernel_rfl) (by kernel_rfl) (fun _ _ _ h => h) (Or.inl ⟨by rfl, fun w' hw' => by go_simp⟩) hH ?_
        try simp only [Act.put, List.getElem_toArray, List.getElem_cons_zero, List.getElem_cons_succ, List.setIfInBounds_toArray, List.set_cons_zero, List.set_cons_succ]
        refine wpAnyH_take (i := 2) (oi := _) (v := (.bool false)) rfl (by kernel_rfl) (by kernel_rfl) (by kernel_rfl) (fun _ _ _ h => h) (Or.inl ⟨by rfl, fun w' hw' => by go_simp⟩) hH ?_
        try simp only [Act.put, List.getElem_toArray, List.getElem_cons_zero, List.getElem_cons_succ, List.setIfInBounds_toArray, List.set_cons_zero, List.set_cons_succ]
        refine wpAnyH_take (i := 3) (oi := _) (v := undef) rfl (by kernel_rfl) (by kernel_rfl) (by kernel_rfl) (fun _ _ _ h => h) (Or.inr ⟨by rfl, rfl⟩) hH ?_
        try simp only [Act.put, List.getElem_toArray, List.getElem_cons_zero, List.getElem_cons_succ, List.setIfInBounds_toArray, List.set_cons_zero, List.set_cons_succ]
        refine wpAnyH_take (i := 4) (oi := _) (v := undef) rfl (by kernel_rfl) (by kernel_rfl) (by kernel_rfl) (fun _ _ _ h => h) (Or.inr ⟨by rfl, rfl⟩) hH ?_
        try simp only [Act.put, List.getElem_toArray, List.getElem_cons_zero, List.getElem_cons_succ, List.setIfInBounds_toArray, List.set_cons_zero, List.set_cons_succ]
        refine wpAnyH_take (i := 5) (oi := _) (v := undef) rfl (by kernel_rfl) (by kernel_rfl) (by kernel_rfl) (fun _ _ _ h => h) (Or.inr ⟨by rfl, rfl⟩) hH ?_
        try simp only [Act.put, List.getElem_toArray, List.getElem_cons_zero, List.getElem_cons_succ, List.setIfInBounds_toArray, List.set_cons_zero, List.set_cons_succ]
        refine wpAnyH_take (i := 6) (oi := _) (v := undef) rfl (by kernel_rfl) (by kernel_rfl) (by kernel_rfl) (fun _ _ _ h => h) (Or.inr ⟨by rfl, rfl⟩) hH ?_
        try simp only [Act.put, List.getElem_toArray, List.getElem_cons_zero, List.getElem_cons_succ, List.setIfInBounds_toArray, List.set_cons_zero, List.set_cons_succ]
        refine wpAnyH_take (i := 7) (oi := _) (v := undef) rfl (by kernel_rfl) (by kernel_rfl) (by kernel_rfl) (fun _ _ _ h => h) (Or.inr ⟨by rfl, rfl⟩) hH ?_
        try simp only [Act.put, List.getElem_toArray, List.getElem_cons_zero, List.getElem_cons_succ, List.setIfInBounds_toArray, List.set_cons_zero, List.set_cons_succ]
        refine wpAnyH_take (i := 8) (oi := _) (v := undef) rfl (by kernel_rfl) (by kernel_rfl) (by kernel_rfl) (fun _ _ _ h => h) (Or.inr ⟨by rfl, rfl⟩) hH ?_
        try simp only [Act.put, List.getElem_toArray, List.getElem_cons_zero, List.getElem_cons_succ, List.setIfInBounds_toArray, List.set_cons_zero, List.set_cons_succ]
        refine wpAnyH_take (i := 9) (oi := _) (v := (.bool false)) rfl (by kernel_rfl) (by kernel_rfl) (by kernel_rfl) (fun _ _ _ h => h) (Or.inl ⟨by rfl, fun w' hw' => by go_simp⟩) hH ?_
        try simp only [Act.put, List.getElem_toArray, List.getElem_cons_zero, List.getElem_cons_succ, List.setIfInBounds_toArray, List.set_cons_zero, List.set_cons_succ]
        refine wpAnyH_ready (rs := [10]) (by kernel_rfl) (by simp) ?_
        refine AllReadyH.cons (o := _) rfl (fun K hK => ?_) AllReadyH.nil
        rw [if_pos (by rfl)]
        refine wp_store_row 34 _ _ rfl w.heap.size (entC nm x1 x4) rfl rfl 34 #[.string ⟨#[]⟩, .int .i64 0, .int .i64 0] HRZ.out infoD3 rfl entC_one ?_
        refine hK.out _ _ ⟨below_setRow hH.1 (Nat.le_refl _) _, (setRow_block _ _ _ _ (by omega)).trans hH.2⟩ (fun hH9 => ?_)
        have HRow := hide (HRZ.out.row (entC nm x1 x4))
        clear hK K
        try simp only [Act.put, List.getElem_toArray, List.getElem_cons_zero, List.getElem_cons_succ, List.setIfInBounds_toArray, List.set_cons_zero, List.set_cons_succ]
        refine wpAnyH_ready (rs := [11]) (by kernel_rfl) (by simp) ?_
        refine AllReadyH.cons (o := _) rfl (fun K hK => ?_) AllReadyH.nil
        go_simp
        refine hK.out _ _ hH9 (fun hH10 => ?_)
        clear hK K
        try simp only [Act.put, List.getElem_toArray, List.getElem_cons_zero, List.getElem_cons_succ, List.setIfInBounds_toArray, List.set_cons_zero, List.set_cons_succ]
        have HBel := hide hH10.1
        refine wpAnyH_done (by kernel_rfl) (NoPanic.normal ?_) _
        clear hH hH9 hH10
        go_wp2
        refine bodyPost_ret (v := .tuple #[.agg (entC nm x1 x4), .bool false]) (results_row_tmp rfl _ _ w.heap.size 34 (entC nm x1 x4) (0, 0) _ (.bool false) rfl rfl HRow.out Tryd.underlying34 rfl infoD3) rfl ?_
        exact ⟨nm, x1, x4, by rw [HR.out], fun _ => ⟨HNm.out, by rw [HXs.out.2.2], by rw [HXs.out.2.1]⟩, HBel.out⟩
      · have HR := hide (show sRight ps = false from by rw [HEq2.out, hb1]; simp)
        clear hb1
        go_wp2_with fail
        refine wp_region_noPanic ?_
        refine wp_region_held_drew (S := fun w' => Below w.heap.size w w' ∧ Blk w' W.heap.size (entC nm x1 x4) 34) (by kernel_rfl) ⟨H3.out.1.drew, H3.out.2.1⟩ (fun hH => ?_)
        have HRZ := hide (show Blk (World.drew w3) w.heap.size #[.string ⟨#[]⟩, .int .i64 0, .int .i64 0] 34 from H3.out.2.2)
        refine wpAnyH_take (i := 0) (oi := _) (v := (.agg (entC nm x1 x4))) rfl (by kernel_rfl) (by kernel_rfl) (by kernel_rfl) (fun _ _ _ h => h) (yieldsIf_load_mid (by rfl) 34 _ rfl W.heap.size 0 rfl (entC nm x1 x4).toList _ (fun w' h => ent_range h.2) Tryd.underlying34 rfl infoD3) hH ?_
        try simp only [Act.put, List.getElem_toArray, List.getElem_cons_zero, List.getElem_cons_succ, List.setIfInBounds_toArray, List.set_cons_zero, List.set_cons_succ]
        refine wpAnyH_take (i := 1) (oi := _) (v := (.bool false)) rfl (by kernel_rfl) (by kernel_rfl) (by kernel_rfl) (fun _ _ _ h => h) (Or.inl ⟨by rfl, fun w' hw' => by go_simp⟩) hH ?_
        try simp only [Act.put, List.getElem_toArray, List.getElem_cons_zero, List.getElem_cons_succ, List.setIfInBounds_toArray, List.set_cons_zero, List.set_cons_succ]
        refine wpAnyH_take (i := 2) (oi := _) (v := (.bool false)) rfl (by kernel_rfl) (by kernel_rfl) (by kernel_rfl) (fun _ _ _ h => h) (Or.inl ⟨by rfl, fun w' hw' => by go_simp⟩) hH ?_
        try simp only [Act.put, List.getElem_toArray, List.getElem_cons_zero, List.getElem_cons_succ, List.setIfInBounds_toArray, List.set_cons_zero, List.set_cons_succ]
        refine wpAnyH_take (i := 3) (oi := _) (v := undef) rfl (by kernel_rfl) (by kernel_rfl) (by kernel_rfl) (fun _ _ _ h => h) (Or.inr ⟨by rfl, rfl⟩) hH ?_
        try simp only [Act.put, List.getElem_toArray, List.getElem_cons_zero, List.getElem_cons_succ, List.setIfInBounds_toArray, List.set_cons_zero, List.set_cons_succ]
        refine wpAnyH_take (i := 4) (oi := _) (v := undef) rfl (by kernel_rfl) (by kernel_rfl) (by kernel_rfl) (fun _ _ _ h => h) (Or.inr ⟨by rfl, rfl⟩) hH ?_
        try simp only [Act.put, List.getElem_toArray, List.getElem_cons_zero, List.getElem_cons_succ, List.setIfInBounds_toArray, List.set_cons_zero, List.set_cons_succ]
        refine wpAnyH_take (i := 5) (oi := _) (v := undef) rfl (by kernel_rfl) (by kernel_rfl) (by kernel_rfl) (fun _ _ _ h => h) (Or.inr ⟨by rfl, rfl⟩) hH ?_
        try simp only [Act.put, List.getElem_toArray, List.getElem_cons_zero, List.getElem_cons_succ, List.setIfInBounds_toArray, List.set_cons_zero, List.set_cons_succ]
        refine wpAnyH_take (i := 6) (oi := _) (v := undef) rfl (by kernel_rfl) (by kernel_rfl) (by kernel_rfl) (fun _ _ _ h => h) (Or.inr ⟨by rfl, rfl⟩) hH ?_
        try simp only [Act.put, List.getElem_toArray, List.getElem_cons_zero, List.getElem_cons_succ, List.setIfInBounds_toArray, List.set_cons_zero, List.set_cons_succ]
        refine wpAnyH_take (i := 7) (oi := _) (v := undef) rfl (by kernel_rfl) (by kernel_rfl) (by kernel_rfl) (fun _ _ _ h => h) (Or.inr ⟨by rfl, rfl⟩) hH ?_
        try simp only [Act.put, List.getElem_toArray, List.getElem_cons_zero, List.getElem_cons_succ, List.setIfInBounds_toArray, List.set_cons_zero, List.set_cons_succ]
        refine wpAnyH_take (i := 8) (oi := _) (v := undef) rfl (by kernel_rfl) (by kernel_rfl) (by kernel_rfl) (fun _ _ _ h => h) (Or.inr ⟨by rfl, rfl⟩) hH ?_
        try simp only [Act.put, List.getElem_toArray, List.getElem_cons_zero, List.getElem_cons_succ, List.setIfInBounds_toArray, List.set_cons_zero, List.set_cons_succ]
        refine wpAnyH_take (i := 9) (oi := _) (v := (.bool false)) rfl (by kernel_rfl) (by kernel_rfl) (by kernel_rfl) (fun _ _ _ h => h) (Or.inl ⟨by rfl, fun w' hw' => by go_simp⟩) hH ?_
        try simp only [Act.put, List.getElem_toArray, List.getElem_cons_zero, List.getElem_cons_succ, List.setIfInBounds_toArray, List.set_cons_zero, List.set_cons_succ]
        refine wpAnyH_ready (rs := [10]) (by kernel_rfl) (by simp) ?_
        refine AllReadyH.cons (o := _) rfl (fun K hK => ?_) AllReadyH.nil
        rw [if_pos (by rfl)]
        refine wp_store_row 34 _ _ rfl w.heap.size (entC nm x1 x4) rfl rfl 34 #[.string ⟨#[]⟩, .int .i64 0, .int .i64 0] HRZ.out infoD3 rfl entC_one ?_
        refine hK.out _ _ ⟨below_setRow hH.1 (Nat.le_refl _) _, (setRow_block _ _ _ _ (by omega)).trans hH.2⟩ (fun hH9 => ?_)
        have HRow := hide (HRZ.out.row (entC nm x1 x4))
        clear hK K
        try simp only [Act.put, List.getElem_toArray, List.getElem_cons_zero, List.getElem_cons_succ, List.setIfInBounds_toArray, List.set_cons_zero, List.set_cons_succ]
        refine wpAnyH_ready (rs := [11]) (by kernel_rfl) (by simp) ?_
        refine AllReadyH.cons (o := _) rfl (fun K hK => ?_) AllReadyH.nil
        go_simp
        refine hK.out _ _ hH9 (fun hH10 => ?_)
        clear hK K
        try simp only [Act.put, List.getElem_toArray, List.getElem_cons_zero, List.getElem_cons_succ, List.setIfInBounds_toArray, List.set_cons_zero, List.set_cons_succ]
        have HBel := hide hH10.1
        refine wpAnyH_done (by kernel_rfl) (NoPanic.normal ?_) _
        clear hH hH9 hH10
        go_wp2
        refine bodyPost_ret (v := .tuple #[.agg (entC nm x1 x4), .bool false]) (results_row_tmp rfl _ _ w.heap.size 34 (entC nm x1 x4) (0, 0) _ (.bool false) rfl rfl HRow.out Tryd.underlying34 rfl infoD3) rfl ?_
        exact ⟨nm, x1, x4, by rw [HR.out], fun _ => ⟨HNm.out, by rw [HXs.out.2.2], by rw [HXs.out.2.1]⟩, HBel.out⟩
      · have HR := hide (show sRight ps = false from by rw [HEq2.out, hb2]; simp)
        clear hb1 hb2
        go_wp2_with fail
        refine wp_region_noPanic ?_
        refine wp_region_held_drew (S := fun w' => Below w.heap.size w w' ∧ Blk w' W.heap.size (entC nm x1 x4) 34) (by kernel_rfl) ⟨H3.out.1.drew, H3.out.2.1⟩ (fun hH => ?_)
        have HRZ := hide (show Blk (World.drew w3) w.heap.size #[.string ⟨#[]⟩, .int .i64 0, .int .i64 0] 34 from H3.out.2.2)
        refine wpAnyH_take (i := 0) (oi := _) (v := (.agg (entC nm x1 x4))) rfl (by kernel_rfl) (by kernel_rfl) (by kernel_rfl) (fun _ _ _ h => h) (yieldsIf_load_mid (by rfl) 34 _ rfl W.heap.size 0 rfl (entC nm x1 x4).toList _ (fun w' h => ent_range h.2) Tryd.underlying34 rfl infoD3) hH ?_
        try simp only [Act.put, List.getElem_toArray, List.getElem_cons_zero, List.getElem_cons_succ, List.setIfInBounds_toArray, List.set_cons_zero, List.set_cons_succ]
        refine wpAnyH_take (i := 1) (oi := _) (v := (.bool false)) rfl (by kernel_rfl) (by kernel_rfl) (by kernel_rfl) (fun _ _ _ h => h) (Or.inl ⟨by rfl, fun w' hw' => by go_simp⟩) hH ?_
        try simp only [Act.put, List.getElem_toArray, List.getElem_cons_zero, List.getElem_cons_succ, List.setIfInBounds_toArray, List.set_cons_zero, List.set_cons_succ]
        refine wpAnyH_take (i := 2) (oi := _) (v := (.bool false)) rfl (by kernel_rfl) (by kernel_rfl) (by kernel_rfl) (fun _ _ _ h => h) (Or.inl ⟨by rfl, fun w' hw' => by go_simp⟩) hH ?_
        try simp only [Act.put, List.getElem_toArray, List.getElem_cons_zero, List.getElem_cons_succ, List.setIfInBounds_toArray, List.set_cons_zero, List.set_cons_succ]
        refine wpAnyH_take (i := 3) (oi := _) (v := undef) rfl (by kernel_rfl) (by kernel_rfl) (by kernel_rfl) (fun _ _ _ h => h) (Or.inr ⟨by rfl, rfl⟩) hH ?_
        try simp only [Act.put, List.getElem_toArray, List.getElem_cons_zero, List.getElem_cons_succ, List.setIfInBounds_toArray, List.set_cons_zero, List.set_cons_succ]
        refine wpAnyH_take (i := 4) (oi := _) (v := undef) rfl (by kernel_rfl) (by kernel_rfl) (by kernel_rfl) (fun _ _ _ h => h) (Or.inr ⟨by rfl, rfl⟩) hH ?_
        try simp only [Act.put, List.getElem_toArray, List.getElem_cons_zero, List.getElem_cons_succ, List.setIfInBounds_toArray, List.set_cons_zero, List.set_cons_succ]
        refine wpAnyH_take (i := 5) (oi := _) (v := undef) rfl (by kernel_rfl) (by kernel_rfl) (by kernel_rfl) (fun _ _ _ h => h) (Or.inr ⟨by rfl, rfl⟩) hH ?_
        try simp only [Act.put, List.getElem_toArray, List.getElem_cons_zero, List.getElem_cons_succ, List.setIfInBounds_toArray, List.set_cons_zero, List.set_cons_succ]
        refine wpAnyH_take (i := 6) (oi := _) (v := undef) rfl (by kernel_rfl) (by kernel_rfl) (by kernel_rfl) (fun _ _ _ h => h) (Or.inr ⟨by rfl, rfl⟩) hH ?_
        try simp only [Act.put, List.getElem_toArray, List.getElem_cons_zero, List.getElem_cons_succ, List.setIfInBounds_toArray, List.set_cons_zero, List.set_cons_succ]
        refine wpAnyH_take (i := 7) (oi := _) (v := undef) rfl (by kernel_rfl) (by kernel_rfl) (by kernel_rfl) (fun _ _ _ h => h) (Or.inr ⟨by rfl, rfl⟩) hH ?_
        try simp only [Act.put, List.getElem_toArray, List.getElem_cons_zero, List.getElem_cons_succ, List.setIfInBounds_toArray, List.set_cons_zero, List.set_cons_succ]
        refine wpAnyH_take (i := 8) (oi := _) (v := undef) rfl (by kernel_rfl) (by kernel_rfl) (by kernel_rfl) (fun _ _ _ h => h) (Or.inr ⟨by rfl, rfl⟩) hH ?_
        try simp only [Act.put, List.getElem_toArray, List.getElem_cons_zero, List.getElem_cons_succ, List.setIfInBounds_toArray, List.set_cons_zero, List.set_cons_succ]
        refine wpAnyH_take (i := 9) (oi := _) (v := (.bool false)) rfl (by kernel_rfl) (by kernel_rfl) (by kernel_rfl) (fun _ _ _ h => h) (Or.inl ⟨by rfl, fun w' hw' => by go_simp⟩) hH ?_
        try simp only [Act.put, List.getElem_toArray, List.getElem_cons_zero, List.getElem_cons_succ, List.setIfInBounds_toArray, List.set_cons_zero, List.set_cons_succ]
        refine wpAnyH_ready (rs := [10]) (by kernel_rfl) (by simp) ?_
        refine AllReadyH.cons (o := _) rfl (fun K hK => ?_) AllReadyH.nil
        rw [if_pos (by rfl)]
        refine wp_store_row 34 _ _ rfl w.heap.size (entC nm x1 x4) rfl rfl 34 #[.string ⟨#[]⟩, .int .i64 0, .int .i64 0] HRZ.out infoD3 rfl entC_one ?_
        refine hK.out _ _ ⟨below_setRow hH.1 (Nat.le_refl _) _, (setRow_block _ _ _ _ (by omega)).trans hH.2⟩ (fun hH9 => ?_)
        have HRow := hide (HRZ.out.row (entC nm x1 x4))
        clear hK K
        try simp only [Act.put, List.getElem_toArray, List.getElem_cons_zero, List.getElem_cons_succ, List.setIfInBounds_toArray, List.set_cons_zero, List.set_cons_succ]
        refine wpAnyH_ready (rs := [11]) (by kernel_rfl) (by simp) ?_
        refine AllReadyH.cons (o := _) rfl (fun K hK => ?_) AllReadyH.nil
        go_simp
        refine hK.out _ _ hH9 (fun hH10 => ?_)
        clear hK K
        try simp only [Act.put, List.getElem_toArray, List.getElem_cons_zero, List.getElem_cons_succ, List.setIfInBounds_toArray, List.set_cons_zero, List.set_cons_succ]
        have HBel := hide hH10.1
        refine wpAnyH_done (by kernel_rfl) (NoPanic.normal ?_) _
        clear hH hH9 hH10
        go_wp2
        refine bodyPost_ret (v := .tuple #[.agg (entC nm x1 x4), .bool false]) (results_row_tmp rfl _ _ w.heap.size 34 (entC nm x1 x4) (0, 0) _ (.bool false) rfl rfl HRow.out Tryd.underlying34 rfl infoD3) rfl ?_
        exact ⟨nm, x1, x4, by rw [HR.out], fun _ => ⟨HNm.out, by rw [HXs.out.2.2], by rw [HXs.out.2.1]⟩, HBel.out⟩
  · have hLi : (26 : Int) < (x5 : Int) := by omega
    have HR := hide (show sRight ps = false from by
      cases hs : sRight ps with
      | false => rfl
      | true => have := HK.out hs; have := HXs.out.1; omega)
    go_enter Tryd.func46, Tryd.ntmps46
    go_wp2
    refine bodyPost_ret (v := .tuple #[.agg (entC ⟨#[]⟩ 0 0), .bool false]) (results_row_tmp rfl _ _ w.heap.size 34 (entC ⟨#[]⟩ 0 0) (0, 0) _ (.bool false) rfl rfl HRes.out Tryd.underlying34 rfl infoD3) rfl ?_
    exact ⟨⟨#[]⟩, 0, 0, by rw [HR.out], fun h => by (rw [HR.out] at h; cases h), HB0.out⟩
end Go.Proofs.YtcciaojdceejcaaDoor

namespace Go.Proofs.YtcciaojdceejcaaDoor
set_option linter.unusedVariables false
set_option linter.unusedSimpArgs false
open Go.RowKit

/-- Slot k of the bytes. -/
def slotK (zs : List Int) (k : Nat) : List Int := (zs.drop (k * 32)).take 32
/-- The entries of the first k slots, or none if one of them is wrong. -/
def entT (zs : List Int) : Nat → Option (List (ByteArray × Nat × Nat))
  | 0 => some []
  | k + 1 => match entT zs k with
    | none => none
    | some es => if sZero (slotK zs k) = true then some es else if (sRight (slotK zs k) && !(es.any fun e => e.1.toList == (sName (slotK zs k)).toList)) = true then some (es ++ [(sName (slotK zs k), sIno (slotK zs k), sKind (slotK zs k))]) else none
/-- Whether the bytes are a directory. -/
def dirOk (zs : List Int) : Bool := decide (zs.length % 512 = 0) && (decide (zs.length ≤ 262144) && ((entT zs (zs.length / 32)).isSome && !(decide (0 < zs.length) && allZ (zs.drop (zs.length - 512)))))
/-- The cells of entries in a row. -/
def entsC : List (ByteArray × Nat × Nat) → List Value
  | [] => []
  | e :: es => .string e.1 :: .int .i64 (e.2.1 : Int) :: .int .i64 (e.2.2 : Int) :: entsC es
theorem entsC_len : ∀ es, (entsC es).length = es.length * 3
  | [] => rfl
  | e :: es => by rw [entsC, List.length_cons, List.length_cons, List.length_cons, entsC_len es, List.length_cons]; omega
theorem entsC_append : ∀ es fs, entsC (es ++ fs) = entsC es ++ entsC fs
  | [], _ => rfl
  | e :: es, fs => by simp [entsC, entsC_append es fs]
theorem entT_none {zs : List Int} {k : Nat} : ∀ {n : Nat}, k ≤ n → entT zs k = none → entT zs n = none
  | 0, h, e => by rw [show k = 0 by omega] at e; exact e
  | n + 1, h, e => by
    rcases Nat.lt_or_ge n k with h1 | h1
    · rw [show k = n + 1 by omega] at e; exact e
    · rw [entT, entT_none h1 e]
theorem entT_zero {zs : List Int} {k : Nat} {es : List (ByteArray × Nat × Nat)} (h : entT zs k = some es) (hz : sZero (slotK zs k) = true) : entT zs (k + 1) = some es := by
  rw [entT, h]; simp [hz]
theorem entT_bad {zs : List Int} {k : Nat} {es : List (ByteArray × Nat × Nat)} (h : entT zs k = some es) (hz : sZero (slotK zs k) = false) (hr : sRight (slotK zs k) = false) : entT zs (k + 1) = none := by
  rw [entT, h]; simp [hz, hr]
theorem entT_twice {zs : List Int} {k : Nat} {es : List (ByteArray × Nat × Nat)} (h : entT zs k = some es) (hz : sZero (slotK zs k) = false) (ht : (es.any fun e => e.1.toList == (sName (slotK zs k)).toList) = true) : entT zs (k + 1) = none := by
  rw [entT, h]
  show (if sZero (slotK zs k) = true then some es else if (sRight (slotK zs k) && !(es.any fun e => e.1.toList == (sName (slotK zs k)).toList)) = true then _ else none) = none
  rw [hz, ht]; simp
theorem entT_more {zs : List Int} {k : Nat} {es : List (ByteArray × Nat × Nat)} (h : entT zs k = some es) (hz : sZero (slotK zs k) = false) (hr : sRight (slotK zs k) = true) (ht : (es.any fun e => e.1.toList == (sName (slotK zs k)).toList) = false) : entT zs (k + 1) = some (es ++ [(sName (slotK zs k), sIno (slotK zs k), sKind (slotK zs k))]) := by
  rw [entT, h]
  show (if sZero (slotK zs k) = true then some es else if (sRight (slotK zs k) && !(es.any fun e => e.1.toList == (sName (slotK zs k)).toList)) = true then _ else none) = _
  rw [hz, hr, ht]; simp
theorem dirOk_none {zs : List Int} {k : Nat} (hk : k ≤ zs.length / 32) (h : entT zs k = none) : dirOk zs = false := by
  unfold dirOk
  rw [entT_none hk h]
  simp
theorem wpList_store_newD {P : Program} {ops : Array Oper} {rest : List Oper} {o : Oper} {a : Act} {w : World} {Q : Exit → Act → World → Prop} (B : Nat) (W0 : World) (hgd : o.guard = none) (ty : TypeId) (x y : Operand) (ho : o.op = .store ty x y)
    (g : Nat) (cells : Array Value) (hx : a.eval x = .pointer (some ⟨g, 0, none⟩)) (hy : a.eval y = .agg cells)
    (t : TypeId) (old : Array Value) (hg : Blk w g old t) (hi : (P.info? ty).map (·.size) = some cells.size)
    (hold : old.size = cells.size) (h1 : cells.all (·.oneCell') = true) (hB : Below B W0 w) (hBg : B ≤ g)
    (h : ∀ w2, Blk w2 g cells t → Below B W0 w2 → wpList P ops Q rest (a.put o.dst undef) w2) : wpList P ops Q (o :: rest) a w :=
  wpList_store_row hgd ty x y ho g cells hx hy t old hg hi hold h1 (h _ (hg.row cells) (below_setRow hB hBg cells))
theorem own_emptyD (w : World) (e : TypeId) (sz : Nat) : (w.alloc (.cells #[] e)).ownsRow w.heap.size e sz (.slice (some ⟨w.heap.size, 0, none⟩) 0 0) 0 [] :=
  ⟨by simp, .inr ⟨w.heap.size, 0, #[], rfl, Nat.le_refl _, heap_alloc_new w _, Nat.le_refl _, by simp, by simp, by simp⟩⟩
theorem own_sliceD {w : World} {base : Nat} {e : TypeId} {size : Nat} {v : Value} {n : Nat} {xs : List Value} (h : w.ownsRow base e size v n xs) (hn : 0 < n) : ∃ g cap, v = .slice (some ⟨g, 0, none⟩) n cap ∧ base ≤ g ∧ g < w.heap.size ∧ ∀ j u, xs[j]? = some u → w.cell? ((⟨g, 0, none⟩ : Addr).add j) = some u := by
  rcases h.2 with ⟨_, h0⟩ | ⟨g, cap, cur, rfl, hb, hg, _⟩
  · omega
  · exact ⟨g, cap, rfl, hb, (h.lt g rfl).2, h.cells rfl⟩
theorem ownD_shape {w : World} {base : Nat} {e : TypeId} {v : Value} {n sz : Nat} {xs : List Value} (h : w.ownsRow base e sz v n xs) : ∃ a cap, v = .slice a n cap := by
  rcases h.2 with ⟨rfl, rfl⟩ | ⟨g, cap, _, rfl, _⟩
  · exact ⟨_, _, rfl⟩
  · exact ⟨_, _, rfl⟩
theorem wpList_build1D {P : Program} {ops : Array Oper} {rest : List Oper} {o : Oper} {a : Act} {w : World} {Q : Exit → Act → World → Prop} (hgd : o.guard = none) (t e : TypeId) (x : Operand) (ho : o.op = .buildSlice t 1 #[(0, x)]) (cells : Array Value) (hx : a.eval x = .agg cells) (i : TypeInfo) (z : Value)
    (hu : P.underlying t = some (.slice e)) (hi : P.info? e = some i) (hz : i.zero = some z) (hs : i.size = cells.size) (hp : 0 < cells.size) (hl : cells.size ≤ 1000)
    (h : wpList P ops Q rest (a.put o.dst (.slice (some ⟨w.heap.size, 0, none⟩) 1 1)) (w.alloc (.cells cells e))) : wpList P ops Q (o :: rest) a w := by
  have hf : Instr.fill (fun j => some (j * i.size, i.size)) ((Array.range (1 * i.size)).map (z.cells[· % z.cells.size]!)) [(0, Value.agg cells)] = some cells := by
    have := Great.fill_whole (s := i.size) (by omega) [.agg cells] ((Array.range (1 * i.size)).map (z.cells[· % z.cells.size]!)) (by intro v hv; simp at hv; subst hv; exact hs.symm) (by simp)
    simpa [Value.cells] using this
  have he : ((#[(0, x)] : Array (Nat × Operand)).map (fun p => (p.1, a.eval p.2))).toList = [(0, Value.agg cells)] := by simp [hx]
  exact wpList_buildSlice hgd t e 1 _ ho cells i z hu hi hz (by omega) (by omega) (by rw [← he] at hf; exact hf) h
theorem cells_newD (w : World) (C : Array Value) (t : TypeId) : ∀ j u, C.toList[j]? = some u → (w.alloc (.cells C t)).cell? ((⟨w.heap.size, 0, none⟩ : Addr).add j) = some u := by
  intro j u hj
  rw [Addr.add_mid, (Blk.new w C t).cell (0 + j), Nat.zero_add]
  simpa using hj
theorem entsC_at : ∀ (es : List (ByteArray × Nat × Nat)) (m : Nat) (f : ByteArray × Nat × Nat), es[m]? = some f → ∀ (j : Nat) (v : Value), ([.string f.1, .int .i64 (f.2.1 : Int), .int .i64 (f.2.2 : Int)] : List Value)[j]? = some v → (entsC es)[m * 3 + j]? = some v
  | [], m, f, h, j, v, hv => by simp at h
  | e :: es, 0, f, h, j, v, hv => by
    simp at h
    subst h
    match j, hv with
    | 0, hv => simpa [entsC] using hv
    | 1, hv => simpa [entsC] using hv
    | 2, hv => simpa [entsC] using hv
    | j + 3, hv => simp at hv
  | e :: es, m + 1, f, h, j, v, hv => by
    have ih := entsC_at es m f (by simpa using h) j v hv
    rw [entsC, show (m + 1) * 3 + j = (m * 3 + j) + 1 + 1 + 1 by omega]
    simpa using ih
theorem any_take {es : List (ByteArray × Nat × Nat)} {m : Nat} {f : ByteArray × Nat × Nat} {p : ByteArray × Nat × Nat → Bool} (h : es[m]? = some f) : (es.take (m + 1)).any p = ((es.take m).any p || p f) := by
  have hm : m < es.length := (List.getElem?_eq_some_iff.1 h).1
  rw [List.take_succ_eq_append_getElem hm, List.any_append]
  have : es[m] = f := (List.getElem?_eq_some_iff.1 h).2
  simp [this]
theorem any_of_at {es : List (ByteArray × Nat × Nat)} {m : Nat} {f : ByteArray × Nat × Nat} {p : ByteArray × Nat × Nat → Bool} (h : es[m]? = some f) (hp : p f = true) : es.any p = true := by
  rw [List.any_eq_true]
  exact ⟨f, List.mem_of_getElem? h, hp⟩
/-- Between two rounds. -/
structure Ent (b off cap : Nat) (zs : List Int) (w : World) (gS : Nat) (N k : Nat) (es : List (ByteArray × Nat × Nat)) (o : Value) (W : World) : Prop where
  ent : entT zs k = some es
  own : W.ownsRow w.heap.size 34 3 o es.length (entsC es)
  ne : o.ownBlock ≠ some gS
  cs : ∀ j, j < N → W.cell? ⟨gS, j, none⟩ = some (slotV b off cap j)
  gs : gS < W.heap.size
  old : Below w.heap.size w W
  len : es.length ≤ k
theorem Ent.below {b off cap : Nat} {zs : List Int} {w : World} {gS N k : Nat} {es : List (ByteArray × Nat × Nat)} {o : Value} {W W' : World} (h : Ent b off cap zs w gS N k es o W) (hb : Below W.heap.size W W') : Ent b off cap zs w gS N k es o W' :=
  ⟨h.ent, own_below h.own hb, h.ne, fun j hj => (hb.cell (p := ⟨gS, j, none⟩) h.gs).trans (h.cs j hj), Nat.lt_of_lt_of_le h.gs hb.size, h.old.trans (hb.mono h.old.size), h.len⟩
set_option maxRecDepth 100000 in
set_option maxHeartbeats 1000000 in
theorem entries_pos (b off cap : Nat) (zs : List Int) (w : World) (h : Rd .u8 w (.slice (some ⟨b, off, none⟩) zs.length cap) zs) (hbd : ∀ z ∈ zs, 0 ≤ z ∧ z < 256) (hl : zs.length ≤ 262144) (h512 : zs.length % 512 = 0) (h0 : 0 < zs.length) :
    Calls Tryd.prog 35 #[.slice (some ⟨b, off, none⟩) zs.length cap] w fun e w' => ∃ v, e = .returned (.tuple #[v, .bool (dirOk zs)]) ∧ (dirOk zs = true → ∃ es, entT zs (zs.length / 32) = some es ∧ w'.ownsRow w.heap.size 34 3 v es.length (entsC es)) ∧ Below w.heap.size w w' := by
  have h512i : ((zs.length : Int) % 512) = 0 := by omega
  have hli : ¬ ((262144 : Int) < (zs.length : Int)) := by omega
  have hcells : b < w.heap.size ∧ zs.length ≤ cap ∧ cap ≤ maxLen ∧ ∀ i, i < zs.length → w.cell? ⟨b, off + i, none⟩ = some (.int .u8 (zs.getD i 0)) := by
    obtain ⟨a, cp, e, hm, hc, h1, h2⟩ := h
    injection e with e1 e2 e3
    subst e3
    have hne : zs ≠ [] := by intro e; rw [e] at h0; simp at h0
    obtain ⟨b', off', ea, hlt, hcell⟩ := hc hne
    rw [ea] at e1
    injection e1 with e1
    injection e1 with e4 e5
    subst e4 e5
    exact ⟨hlt, by omega, h2, hcell⟩
  obtain ⟨hbw, hcap, hcapm, hcell⟩ := hcells
  have HCl := hide hcell
  have HX := hide hbd
  obtain ⟨N, hN⟩ : ∃ N, N = zs.length / 32 := ⟨_, rfl⟩
  have hNL1 : zs.length ≤ N * 32 := by omega
  have hNL2 : N * 32 ≤ zs.length := by omega
  have HNo := hide (show ∀ k, k ≤ N → entT zs k = none → dirOk zs = false from fun k hk h => dirOk_none (by rw [← hN]; exact hk) h)
  obtain ⟨i0, hi, hz0, hz1, hz2⟩ := info_parts infoD
  have HOw0 := hide (own_emptyD w 34 3)
  have HB0 := hide (show Below w.heap.size w (w.alloc (.cells #[] 34)) from (Below.refl _ _).alloc (Nat.le_refl _) _)
  have HSl := hide (slots_any b off cap zs (w.alloc (.cells #[] 34)) hcap hcapm hl (by omega) (some ⟨b, off, none⟩) (fun _ => rfl))
  rw [← hN] at HSl
  unfold maxLen at hcapm
  clear h hbd hcell hN
  go_enter Tryd.func35, Tryd.ntmps35
  go_wp2_with (go_at_call 52; fail)
  refine HSl.out.mono ?_
  clear HSl
  rintro e wS ⟨v22, rfl, oS, bS⟩
  obtain ⟨gS, cS, rfl, hgS1, hgS2, hcS⟩ := own_sliceD oS (by omega)
  rw [World.size_alloc] at hgS1
  have E0 := hide (show Ent b off cap zs w gS N 0 [] (.slice (some ⟨w.heap.size, 0, none⟩) 0 0) wS from ⟨rfl, own_below HOw0.out bS, by simp [Value.ownBlock]; omega, fun j hj => by
    have := hcS j (slotV b off cap j) (by simp [hj])
    rwa [Addr.add_mid, Nat.zero_add] at this, hgS2, HB0.out.trans (bS.mono (by simp)), Nat.le_refl _⟩)
  clear oS bS hcS HOw0 HB0
  go_wp2
  go_loopw [4, 24] (fun o i wr => ∃ (k : Nat) (es : List (ByteArray × Nat × Nat)), k ≤ N ∧ i = .int .i64 (k : Int) ∧ Ent b off cap zs w gS N k es o wr) (fun _ i _ => N - (intOf i).toNat)
  case atStart => exact ⟨0, [], by omega, rfl, E0.out⟩
  case round =>
    clear E0
    obtain ⟨k, es, hk, rfl, hE⟩ := hrel
    obtain ⟨la, lc, rfl⟩ := ownD_shape hE.own
    have HE := hide hE
    by_cases hlt : k < N
    · have hl1 : k * 32 + 32 ≤ zs.length := by omega
      have c1 : wr.cell? ⟨gS, k, none⟩ = some (.slice (some ⟨b, off + k * 32, none⟩) 32 (cap - k * 32)) := hE.cs k hlt
      have HRd := hide (show Rd .u8 wr (.slice (some ⟨b, off + k * 32, none⟩) 32 (cap - k * 32)) (slotK zs k) from Rd.cut (k * 32) 32 (Nat.lt_of_lt_of_le hbw hE.old.size) (by unfold maxLen; omega) hcap (fun i hi => (hE.old.cell (p := ⟨b, off + i, none⟩) hbw).trans (HCl.out i hi)) hl1)
      have HL := hide (show (slotK zs k).length = 32 ∧ ∀ z ∈ slotK zs k, 0 ≤ z ∧ z < 256 from ⟨by unfold slotK; rw [List.length_take, List.length_drop]; omega, fun z hz => HX.out z (List.mem_of_mem_drop (List.mem_of_mem_take hz))⟩)
      clear hE
      go_wp2_with (go_at_call 53; fail)
      refine (zeroBytes_any _ (slotK zs k) _ HRd.out).mono ?_
      rintro e w3 ⟨rfl, hw⟩
      have hw' := hw.symm
      clear hw
      subst hw'
      rcases hz : allZ (slotK zs k) with _ | _
      rotate_left
      · have HE2 := hide (show Ent b off cap zs w gS N (k + 1) es (.slice la es.length lc) wr from ⟨entT_zero HE.out.ent hz, HE.out.own, HE.out.ne, HE.out.cs, HE.out.gs, HE.out.old, by have := HE.out.len; omega⟩)
        clear hz HE
        go_wp2
        go_roundw
        case rel => exact ⟨k + 1, es, by omega, by go_num, HE2.out⟩
        case measure => simp [intOf]; omega
      · have HZ := hide (show sZero (slotK zs k) = false from hz)
        clear hz
        go_wp2_with (go_at_call 46; fail)
        refine (entry_any b (off + k * 32) (cap - k * 32) (slotK zs k) _ HRd.out HL.out.1 HL.out.2).mono ?_
        rintro e w4 ⟨nm, ino, kd, rfl, hr, b4⟩
        have HE4 := hide (HE.out.below b4)
        have HK := hide (show Blk (w4.alloc (.cells (entC ⟨#[]⟩ 0 0) 34)) w4.heap.size (entC ⟨#[]⟩ 0 0) 34 ∧ Below w4.heap.size w4 (w4.alloc (.cells (entC ⟨#[]⟩ 0 0) 34)) from ⟨Blk.new _ _ _, (Below.refl _ _).alloc (Nat.le_refl _) _⟩)
        clear b4 HE HRd
        rcases hrt : sRight (slotK zs k) with _ | _
        · have HNk := hide (HNo.out (k + 1) (by omega) (entT_bad HE4.out.ent HZ.out hrt))
          clear hr hrt
          go_wp2_with (refine wpList_store_newD w4.heap.size w4 rfl 34 _ _ rfl w4.heap.size (entC nm ino kd) rfl rfl 34 (entC ⟨#[]⟩ 0 0) HK.out.1 infoD3 rfl entC_one HK.out.2 (Nat.le_refl _) ?_; intro w5 k5 b5; have B5 := hide (HE4.out.old.trans (b5.mono HE4.out.old.size)); clear k5 b5)
          go_ret2
          rw [HNk.out]
          exact ⟨_, rfl, fun h => (by cases h), B5.out⟩
        · have HR := hide (And.intro hrt (hr hrt))
          clear hr hrt
          go_wp2_with (refine wpList_store_newD w4.heap.size w4 rfl 34 _ _ rfl w4.heap.size (entC nm ino kd) rfl rfl 34 (entC ⟨#[]⟩ 0 0) HK.out.1 infoD3 rfl entC_one HK.out.2 (Nat.le_refl _) ?_; intro w5 k5 b5; have K5 := hide k5; have E5 := hide (HE4.out.below b5); clear k5 b5)
          have HK5 := hide (show w4.heap.size < w5.heap.size from K5.out.lt)
          clear c1
          go_wp2
          go_loopw [39] (fun j wj => ∃ m : Nat, m ≤ es.length ∧ j = .int .i64 (m : Int) ∧ ((es.take m).any fun e => e.1.toList == nm.toList) = false ∧ Below w5.heap.size w5 wj) (fun j _ => es.length - (intOf j).toNat)
          case atStart => exact ⟨0, by omega, rfl, by simp, Below.refl _ _⟩
          case round =>
            obtain ⟨m, hm, rfl, hno, hb6⟩ := hrel
            have E6 := hide (E5.out.below hb6)
            have K6 := hide (K5.out.below hb6 HK5.out)
            have HNo6 := hide hno
            have H6 := hide hb6
            have cN := (K6.out.cell 0).trans (show (entC nm ino kd)[0]? = some (.string nm) from rfl)
            have hlb : w4.heap.size < wr.heap.size := K6.out.lt
            have hle : es.length ≤ k := E6.out.len
            clear hno hb6
            by_cases hlt2 : m < es.length
            · obtain ⟨g, cp, ee, hg1, hg2, hcc⟩ := own_sliceD E6.out.own (by omega)
              injection ee with e1 e2 e3
              subst e1
              subst e3
              obtain ⟨⟨fn, fi, fk⟩, hf⟩ : ∃ f, es[m]? = some f := ⟨_, List.getElem?_eq_getElem hlt2⟩
              have HRg := hide (show wr.rangeAt g (m * 3) [.string fn, .int .i64 (fi : Int), .int .i64 (fk : Int)] from fun j v hv => by
                have h1 := hcc (m * 3 + j) v (entsC_at es m _ hf j v hv)
                rw [Addr.add_mid, Nat.zero_add] at h1
                exact h1)
              have HF := hide hf
              have HK2 := hide (show Blk (wr.alloc (.cells (entC ⟨#[]⟩ 0 0) 34)) wr.heap.size (entC ⟨#[]⟩ 0 0) 34 ∧ Below wr.heap.size wr (wr.alloc (.cells (entC ⟨#[]⟩ 0 0) 34)) from ⟨Blk.new _ _ _, (Below.refl _ _).alloc (Nat.le_refl _) _⟩)
              clear hcc hf e2
              rcases hq : (fn.toList == nm.toList) with _ | _
              · have HQ := hide hq
                go_wp2_with (first | (refine wpList_load_mid rfl 34 _ rfl g (m * 3) rfl [.string fn, .int .i64 (fi : Int), .int .i64 (fk : Int)] _ HRg.out Tryd.underlying34 rfl infoD3 ?_) | (refine wpList_store_newD wr.heap.size wr rfl 34 _ _ rfl wr.heap.size (entC fn fi fk) rfl rfl 34 (entC ⟨#[]⟩ 0 0) HK2.out.1 infoD3 rfl entC_one HK2.out.2 (Nat.le_refl _) ?_; intro w8 k8 b8; have c8 := (k8.cell 0).trans (show (entC fn fi fk)[0]? = some (.string fn) from rfl); have c9 := (b8.cell (p := ⟨w4.heap.size, 0, none⟩) hlb).trans cN; have B8 := hide b8; clear k8 b8))
                go_roundw
                case rel => exact ⟨m + 1, by omega, by go_num, by rw [any_take HF.out, HNo6.out, HQ.out]; rfl, H6.out.trans (B8.out.mono H6.out.size)⟩
                case measure => simp [intOf]; omega
              · have HNk := hide (HNo.out (k + 1) (by omega) (entT_twice HE4.out.ent HZ.out (any_of_at HF.out (by rw [← HR.out.2.1]; exact hq))))
                go_wp2_with (first | (refine wpList_load_mid rfl 34 _ rfl g (m * 3) rfl [.string fn, .int .i64 (fi : Int), .int .i64 (fk : Int)] _ HRg.out Tryd.underlying34 rfl infoD3 ?_) | (refine wpList_store_newD wr.heap.size wr rfl 34 _ _ rfl wr.heap.size (entC fn fi fk) rfl rfl 34 (entC ⟨#[]⟩ 0 0) HK2.out.1 infoD3 rfl entC_one HK2.out.2 (Nat.le_refl _) ?_; intro w8 k8 b8; have c8 := (k8.cell 0).trans (show (entC fn fi fk)[0]? = some (.string fn) from rfl); have c9 := (b8.cell (p := ⟨w4.heap.size, 0, none⟩) hlb).trans cN; have B8 := hide b8; clear k8 b8))
                go_ret2
                rw [HNk.out]
                exact ⟨_, rfl, fun h => (by cases h), E6.out.old.trans (B8.out.mono E6.out.old.size)⟩
            · have hme : m = es.length := by omega
              subst hme
              have HAny := hide (show (es.any fun e => e.1.toList == (sName (slotK zs k)).toList) = false from by
                have h := HNo6.out
                rw [List.take_length, HR.out.2.1] at h
                exact h)
              have HMore := hide (entT_more HE4.out.ent HZ.out HR.out.1 HAny.out)
              have HOs := E6.out.old.size
              have HGr : wr.heap.size ≤ wr.heap.size := Nat.le_refl _
              go_wp2_with (first | (refine wpList_load_row rfl 34 _ rfl w4.heap.size rfl 34 (entC nm ino kd) (0, 0) _ K6.out Tryd.underlying34 rfl infoD3 ?_) | (refine wpList_build1D rfl 29 34 _ rfl (entC nm ino kd) rfl i0 _ Tryd.underlying29 hi hz0 hz1 (show 0 < 3 by omega) (show 3 ≤ 1000 by omega) ?_) | (at_builtin; refine append_fresh _ rfl (.tmp 49) (.tmp 51) 29 rfl w.heap.size 34 i0 (.agg #[.string ⟨#[]⟩, .int .i64 0, .int .i64 0]) 3 32 Tryd.underlying29 hi hz0 hz1 hz2 rfl (by decide) _ _ _ rfl (E6.out.own.alloc _) ⟨wr.heap.size, 0, none⟩ 1 1 (entC nm ino kd).toList rfl rfl (cells_newD wr _ _) (by intro u hu; simp [entC] at hu; rcases hu with rfl | rfl | rfl <;> rfl) (by omega) (by unfold maxLen; omega) (by omega) (by simp; omega) ?_; intro v7 w7 o7 g7 f7; have O7 := hide o7; have G7 := hide g7; have F7 := hide f7; clear o7 g7 f7))
              have HW := hide (show Ent b off cap zs w gS N (k + 1) (es ++ [(sName (slotK zs k), sIno (slotK zs k), sKind (slotK zs k))]) v7 w7 from by
                have hgs := E6.out.gs
                have hne := E6.out.ne
                refine ⟨HMore.out, ?_, fun h => ?_, fun j hj => ?_, ?_, ?_, ?_⟩
                · rw [List.length_append, entsC_append]
                  have h := O7.out
                  rw [HR.out.2.1, HR.out.2.2.1, HR.out.2.2.2] at h
                  exact h
                · rcases F7.out gS h with h1 | h1
                  · exact hne h1
                  · rw [World.size_alloc] at h1; omega
                · refine (World.cell?_of_block (a := ⟨gS, j, none⟩) ((G7.out.block gS (by rw [World.size_alloc]; omega) (fun e => hne e.symm)).trans (Below.heap_alloc wr _ gS hgs))).trans (E6.out.cs j hj)
                · have := G7.out.size; rw [World.size_alloc] at this; omega
                · exact (E6.out.old.alloc HOs _).grown G7.out (by simp; omega) (fun r h => (E6.out.own.lt r h).1)
                · rw [List.length_append]; simp; omega)
              exact ⟨⟨k + 1, _, by omega, by go_num, HW.out⟩, by simp [intOf]; omega⟩
    · have hkN : k = N := by omega
      subst hkN
      have HFin := hide (show dirOk zs = !(allZ (zs.drop (zs.length - 512))) from by
        unfold dirOk
        rw [show zs.length / 32 = k by omega, HE.out.ent, decide_eq_true h512, decide_eq_true hl, decide_eq_true h0]
        simp)
      have HB := hide hE.old
      have HEs := hide (show entT zs (zs.length / 32) = some es ∧ wr.ownsRow w.heap.size 34 3 (.slice la es.length lc) es.length (entsC es) from ⟨by rw [show zs.length / 32 = k by omega]; exact hE.ent, hE.own⟩)
      have HRl := hide (show Rd .u8 wr (.slice (some ⟨b, off + (zs.length - 512), none⟩) 512 (cap - (zs.length - 512))) (zs.drop (zs.length - 512)) from by
        have h := Rd.cut (k := .u8) (w := wr) (b := b) (off := off) (cap := cap) (zs := zs) (zs.length - 512) 512 (Nat.lt_of_lt_of_le hbw hE.old.size) (by unfold maxLen; omega) hcap (fun i hi => (hE.old.cell (p := ⟨b, off + i, none⟩) hbw).trans (HCl.out i hi)) (by omega)
        rwa [List.take_of_length_le (by rw [List.length_drop]; omega)] at h)
      have hq1 : (0 : Int) < (zs.length : Int) := by omega
      have hq2 : (512 : Int) ≤ (zs.length : Int) := by omega
      have hq3 : (zs.length : Int) ≤ (cap : Int) := by omega
      clear hE HE
      go_wp2_with (go_at_call 53; fail)
      rw [show zs.length - (zs.length - 512) = 512 by omega]
      refine (zeroBytes_any _ (zs.drop (zs.length - 512)) _ HRl.out).mono ?_
      rintro e w3 ⟨rfl, hw⟩
      have hw' := hw.symm
      clear hw
      subst hw'
      rcases hz : allZ (zs.drop (zs.length - 512)) with _ | _
      · have HD := hide (show dirOk zs = true from by rw [HFin.out, hz]; rfl)
        clear hz
        go_wp2
        go_ret2
        rw [HD.out]
        exact ⟨_, rfl, fun _ => ⟨es, HEs.out.1, HEs.out.2⟩, HB.out⟩
      · have HD := hide (show dirOk zs = false from by rw [HFin.out, hz]; rfl)
        clear hz
        go_wp2
        go_ret2
        rw [HD.out]
        exact ⟨_, rfl, fun h => (by cases h), HB.out⟩
set_option maxRecDepth 100000 in
set_option maxHeartbeats 1000000 in
theorem entries_zero (a : Option Addr) (cap : Nat) (w : World) (hcapm : cap ≤ maxLen) :
    Calls Tryd.prog 35 #[.slice a 0 cap] w fun e w' => ∃ v, e = .returned (.tuple #[v, .bool true]) ∧ w'.ownsRow w.heap.size 34 3 v 0 [] ∧ Below w.heap.size w w' := by
  have HOw0 := hide (own_emptyD w 34 3)
  have HB0 := hide (show Below w.heap.size w (w.alloc (.cells #[] 34)) from (Below.refl _ _).alloc (Nat.le_refl _) _)
  have HSl := hide (slots_any 0 0 cap [] (w.alloc (.cells #[] 34)) (Nat.zero_le _) hcapm (by simp) (by simp) a (fun h => by simp at h))
  go_enter Tryd.func35, Tryd.ntmps35
  go_wp2_with (go_at_call 52; fail)
  refine HSl.out.mono ?_
  clear HSl
  rintro e wS ⟨v22, rfl, oS, bS⟩
  obtain ⟨la, lc, rfl⟩ := ownD_shape oS
  have HW := hide (show wS.ownsRow w.heap.size 34 3 (.slice (some ⟨w.heap.size, 0, none⟩) 0 0) 0 [] ∧ Below w.heap.size w wS from ⟨own_below HOw0.out bS, HB0.out.trans (bS.mono (by simp))⟩)
  clear oS bS HOw0 HB0
  go_wp2
  go_loopw [4, 24] (fun o i wr => o = .slice (some ⟨w.heap.size, 0, none⟩) 0 0 ∧ i = .int .i64 0 ∧ wr = wS) (fun _ _ _ => 0)
  case atStart => exact ⟨rfl, rfl, rfl⟩
  case round =>
    obtain ⟨rfl, rfl, rfl⟩ := hrel
    go_wp2
    go_ret2
    exact ⟨_, rfl, HW.out.1, HW.out.2⟩
set_option maxRecDepth 100000 in
theorem entries_bad (a : Option Addr) (n cap : Nat) (w : World) (hn : n ≤ maxLen) (hb : n % 512 ≠ 0 ∨ 262144 < n) :
    Calls Tryd.prog 35 #[.slice a n cap] w fun e w' => ∃ v, e = .returned (.tuple #[v, .bool false]) ∧ Below w.heap.size w w' := by
  unfold maxLen at hn
  by_cases h5 : n % 512 = 0
  · have h1 : ((n : Int) % 512) = 0 := by omega
    have h2 : (262144 : Int) < (n : Int) := by omega
    clear hb h5
    go_enter Tryd.func35, Tryd.ntmps35
    go_wp2
    go_ret2
    exact ⟨_, rfl, Below.refl _ _⟩
  · have h1 : ¬ ((n : Int) % 512) = 0 := by omega
    clear hb h5
    go_enter Tryd.func35, Tryd.ntmps35
    go_wp2
    go_ret2
    exact ⟨_, rfl, Below.refl _ _⟩
end Go.Proofs.YtcciaojdceejcaaDoor
