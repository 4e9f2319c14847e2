/- Entries of a directory: direntFault, readSlot. -/
import Derived.Test.YtplieplmhdfndaaGreatDoorZg07
import Derived.Test.YtplieplmhdfndaaGreatDoorZg08
import Derived.Laws.BytesArg
import Derived.Deep.RegionHeld3
namespace Go.Proofs.YtplieplmhdfndaaGreatDoor
set_option linter.unusedVariables false
set_option linter.unusedSimpArgs false
open Go.RowKit

/-- The cells of an entry. -/
def entC (nm : ByteArray) (ino kd : Int) : Array Value := #[.string nm, .int .i64 ino, .int .i64 kd]
theorem infoD : (Tryz.prog.info? 61).map (fun i => (i.zero, i.size, i.bytes)) = some (some (.agg #[.string ⟨#[]⟩, .int .i64 0, .int .i64 0]), 3, 32) := by kernel_rfl
theorem infoD3 : (Tryz.prog.info? 61).map (·.size) = some 3 := by kernel_rfl
theorem Below.iterD (w : World) (s : ByteArray) (pos : Nat) : Below w.heap.size w (w.iter s pos) := (Below.refl _ _).alloc (Nat.le_refl _) _

set_option maxRecDepth 100000 in
set_option maxHeartbeats 1000000 in
theorem direntFault_any (nm : ByteArray) (ino kd code : Int) (w : World) :
    Calls Tryz.prog 138 #[.agg (entC nm ino kd), .int .i64 code] w fun e w' => ∃ ev, e = .returned ev ∧ FaultIs w' w.heap.size (wi ino 1 1000 && wi kd 1 3) ev code ∧ Below w.heap.size w w' := by
  have kB := (Blk.new w (entC nm ino kd) 61).alloc (.cells #[.int .i64 code, .nilIface] 127)
  have kC := Ck.fresh (w.alloc (.cells (entC nm ino kd) 61)) code 127
  rw [World.size_alloc] at kC
  have hb0 : Below w.heap.size w ((w.alloc (.cells (entC nm ino kd) 61)).alloc (.cells #[.int .i64 code, .nilIface] 127)) := ((Below.refl _ _).alloc (Nat.le_refl _) _).alloc (by simp) _
  have H0 := hide (show Kp w ((w.alloc (.cells (entC nm ino kd) 61)).alloc (.cells #[.int .i64 code, .nilIface] 127)) (entC nm ino kd) 61 code true from ⟨kB, kC, hb0⟩)
  have c1 : ((w.alloc (.cells (entC nm ino kd) 61)).alloc (.cells #[.int .i64 code, .nilIface] 127)).cell? ⟨w.heap.size, 1, none⟩ = some (.int .i64 ino) := (kB.cell 1).trans rfl
  clear kB kC hb0
  go_enter Tryz.func138, Tryz.ntmps138
  go_wp2_with (go_at_call 95; fail)
  refine (within_any (w.heap.size + 1) (w.heap.size + 1 + 1) _ code ino 1 1000 _ _ H0.out.ck (by omega) H0.out.lo).mono ?_
  rintro e w1 ⟨rfl, hc1, ht1⟩
  rw [Bool.true_and] at hc1
  have H1 := hide (H0.out.tch hc1 ht1)
  clear hc1 ht1 H0 c1
  have c2 := (H1.out.blk.cell 2).trans (show (entC nm ino kd)[2]? = some (.int .i64 kd) from rfl)
  go_wp2_with (go_at_call 95; fail)
  refine (within_any (w.heap.size + 1) (w.heap.size + 1 + 1) _ code kd 1 3 _ _ H1.out.ck (by omega) H1.out.lo).mono ?_
  rintro e w2 ⟨rfl, hc2, ht2⟩
  have H2 := hide (H1.out.tch hc2 ht2)
  clear hc2 ht2 H1 c2
  obtain ⟨ev, c3, hf3⟩ := H2.out.fault
  have HV := hide (show FaultIs w2 w.heap.size (wi ino 1 1000 && wi kd 1 3) ev code from hf3)
  clear hf3
  go_wp2
  go_ret
  exact ⟨ev, rfl, HV.out, H2.out.old⟩

theorem Flt.storeV {w : World} {lo g o : Nat} {c : Int} {x y : Value} (hy : w.cell? ⟨g, o, none⟩ = some y) (hne : y ≠ .int .i64 c) (hni : ∀ t z, y ≠ .iface t z) : ∀ {n : Nat} {v : Value}, Flt w lo n v c → Flt (w.setCell ⟨g, o, none⟩ x) lo n v c
  | 0, _, ⟨b, h, hl, hc⟩ => by
    refine ⟨b, h, hl, (World.cell?_setCell_other _ _ _ _ ?_).trans hc⟩
    intro e
    rw [e, hc] at hy
    injection hy with hy
    exact hne hy.symm
  | _ + 1, _, ⟨b, v', h, hl, hc, hr⟩ => by
    refine ⟨b, v', h, hl, (World.cell?_setCell_other _ _ _ _ ?_).trans hc, Flt.storeV hy hne hni hr⟩
    intro e
    rw [e, hc] at hy
    injection hy with hy
    obtain ⟨t, z, rfl⟩ := hr.iface
    exact hni _ _ hy.symm
theorem Rdr.storeV {w0 w : World} {b lo : Nat} {ok : Bool} {dv : Value} {zs : List Int} {pos g o : Nat} {y : Value} (x : Value) (h : Rdr w0 w b lo ok dv zs pos) (hg : b < g) (hy : w.cell? ⟨g, o, none⟩ = some y) (hne : y ≠ .int .i64 21) (hni : ∀ t z, y ≠ .iface t z) : Rdr w0 (w.setCell ⟨g, o, none⟩ x) b lo ok dv zs pos := by
  have hne2 : ∀ o', (⟨g, o, none⟩ : Addr) ≠ ⟨b, o', none⟩ := fun o' e => by injection e with e1 e2; omega
  have hc : ∀ o', (w.setCell ⟨g, o, none⟩ x).cell? ⟨b, o', none⟩ = w.cell? ⟨b, o', none⟩ := fun o' => World.cell?_setCell_other _ _ _ _ (hne2 o')
  obtain ⟨c1, c2, ev, c3, c4⟩ := h.ck
  refine ⟨⟨(hc 0).trans c1, by simpa using c2, ev, (hc 1).trans c3, ?_⟩, (hc 2).trans h.data, (hc 3).trans h.at_, by simpa using h.fr, h.old.setCell (p := ⟨g, o, none⟩) (Nat.le_of_lt hg) _, h.size, h.rd, h.le, h.lo1, by simpa using h.lo2⟩
  rcases c4 with c4 | ⟨c4, n, c5⟩
  · exact .inl c4
  · exact .inr ⟨c4, n, c5.storeV hy hne hni⟩
theorem FaultIs.keepC {w w' : World} {lo : Nat} {ok : Bool} {ev : Value} {code : Int} (h : FaultIs w lo ok ev code) (hk : ∀ k o v, lo ≤ k → w.cell? ⟨k, o, none⟩ = some v → w'.cell? ⟨k, o, none⟩ = some v) : FaultIs w' lo ok ev code := by
  rcases h with h | ⟨h, m, h2⟩
  · exact .inl h
  · exact .inr ⟨h, m, h2.keep hk⟩
/-- While a slot is read: the reader, the entry so far. -/
structure Rs (w0 wr : World) (b lo : Nat) (dv : Value) (zs : List Int) (g : Nat) (C : Array Value) (okr : Bool) (pr : Nat) : Prop where
  rdr : Rdr w0 wr b lo okr dv zs pr
  blk : Blk wr g C 61
theorem Rs.stepR {w0 wr w' : World} {b lo : Nat} {dv : Value} {zs : List Int} {g : Nat} {C : Array Value} {okr ok2 : Bool} {pr p2 : Nat} (h : Rs w0 wr b lo dv zs g C okr pr) (hg : b < g) (hr : Rdr w0 w' b lo ok2 dv zs p2) (hgr : wr.grownBy w' (some b)) : Rs w0 w' b lo dv zs g C ok2 p2 :=
  ⟨hr, (hgr.block _ h.blk.lt (by simp; omega)).trans h.blk⟩
theorem Rs.putC {w0 wr : World} {b lo : Nat} {dv : Value} {zs : List Int} {g : Nat} {C : Array Value} {okr : Bool} {pr : Nat} (h : Rs w0 wr b lo dv zs g C okr pr) (hg : b < g) (o : Nat) (x y : Value) (hy : C[o]? = some y) (hne : y ≠ .int .i64 21) (hni : ∀ t z, y ≠ .iface t z) : Rs w0 (wr.setCell ⟨g, o, none⟩ x) b lo dv zs g (C.setIfInBounds o x) okr pr :=
  ⟨h.rdr.storeV x hg ((h.blk.cell o).trans hy) hne hni, heap_setCell_same _ _ o _ _ x h.blk⟩

theorem entC_one {nm : ByteArray} {ino kd : Int} : (entC nm ino kd).all Value.oneCell' = true := by simp [entC, Value.oneCell']
theorem beq_dec (z : Int) : (z == 0) = decide (z = 0) := by by_cases h : z = 0 <;> simp [h]
theorem conv_rd {w : World} {v : Value} {xs : List Int} (h : Rd .u8 w v xs) : (convert 45 9 v).run Tryz.prog w = .ok (.string (strOfNums xs)) w := by
  obtain ⟨a, cap, rfl, hm, hc, h1, h2⟩ := h
  by_cases hne : xs = []
  · subst hne
    rw [run_convert_bytes_string w 45 9 5 _ _ cap Tryz.underlying45 Tryz.underlying5 Tryz.underlying9]
    cases a with
    | none => simp [Conv.bytesToString]; rfl
    | some ad =>
      exact run_bytesToString w ad 0 cap [] (by simpa using run_loadCells_list (P := Tryz.prog) w ad [] (by simp))
  · obtain ⟨b, off, rfl, _, hcell⟩ := hc hne
    exact run_convert_bytes_arg w 45 5 Tryz.underlying45 Tryz.underlying5 b off xs.length cap xs rfl hcell 9 Tryz.underlying9
theorem wpList_conv {ops : Array Oper} {rest : List Oper} {o : Oper} {a : Act} {w : World} {Q : Exit → Act → World → Prop} (hgd : o.guard = none) (x : Operand) (ho : o.op = .convert 45 9 x) (v : Value) (hx : a.eval x = v) (xs : List Int) (hr : Rd .u8 w v xs)
    (h : wpList Tryz.prog ops Q rest (a.put o.dst (.string (strOfNums xs))) w) : wpList Tryz.prog ops Q (o :: rest) a w := by
  refine wpList_plain hgd fun K hK => ?_
  unfold Oper.wp execOp
  simp only [ho, hx, Sem.run_bind, Sem.run_pure, Result.andThen_ok, conv_rd hr]
  exact hK _ _ h
theorem ent_range {w : World} {b : Nat} {C : Array Value} {t : TypeId} (h : Blk w b C t) : w.rangeAt b 0 C.toList := by
  intro j v hv
  rw [h.cell (0 + j), Nat.zero_add]
  simpa using hv
theorem part_str {P : Program} (w : World) {e : TypeId} (he : P.underlying e = some .string) {xs : Array Value} {off : Nat} {v : Value} (hx : xs[off]? = some v) : (part e xs off).run P w = .ok v w := by
  simp [part, isAgg, run_underlying he, hx]
theorem structEnt : Tryz.prog.underlying 61 = some (.struct (Tryz.prog.fieldsOf 61)) := by unfold Program.fieldsOf; rw [Tryz.underlying61]
theorem heldEnt : Tryz.prog.stoodInHeld 61 = false := by kernel_rfl
theorem guardEnt : Tryz.prog.eqGuardType Tryz.prog.depth 61 = false := by kernel_rfl
set_option maxRecDepth 100000 in
theorem eqEnt (w : World) (d : Nat) (n1 : ByteArray) (i1 k1 : Int) (n2 : ByteArray) (i2 k2 : Int) : (Op.equalIn (d + 2) 61 (.agg (entC n1 i1 k1)) (.agg (entC n2 i2 k2))).run Tryz.prog w = .ok (entEq n1 i1 k1 n2 i2 k2) w := by
  rw [run_equalIn_agg w (d + 1) _ _ _ structEnt heldEnt]
  unfold Program.fieldsOf
  rw [Tryz.underlying61]
  exact eqFields_cons w (by decide) (part_str w Tryz.underlying9 (v := .string n1) rfl) (part_str w Tryz.underlying9 (v := .string n2) rfl) (run_equalIn_string w d _ _ _ Tryz.underlying9)
    (eqFields_cons w (by decide) (part_one w Tryz.underlying3 (v := .int .i64 i1) rfl) (part_one w Tryz.underlying3 (v := .int .i64 i2) rfl) (run_equalIn_int w d _ .i64 .i64 _ _ Tryz.underlying3)
    (eqFields_cons w (by decide) (part_one w Tryz.underlying3 (v := .int .i64 k1) rfl) (part_one w Tryz.underlying3 (v := .int .i64 k2) rfl) (run_equalIn_int w d _ .i64 .i64 _ _ Tryz.underlying3) (by simp [Op.eqFields])))
theorem wpList_neqE {P : Program} {ops : Array Oper} {rest : List Oper} {o : Oper} {a : Act} {w : World} {Q : Exit → Act → World → Prop} (hgd : o.guard = none) (t u : TypeId) (x y : Operand) (ho : o.op = .binOp .neq t x y u)
    (cs ds : Array Value) (hx : a.eval x = .agg cs) (hy : a.eval y = .agg ds) (hm : P.eqGuardType P.depth t = false) (b : Bool) (hE : (Op.equalIn 10000 t (.agg cs) (.agg ds)).run P w = .ok b w)
    (h : wpList P ops Q rest (a.put o.dst (.bool (!b))) w) : wpList P ops Q (o :: rest) a w := by
  refine wpList_plain hgd fun K hK => ?_
  have hrun : (execOp a.eval o).run P w = .ok (.value (.bool (!b))) w := by
    simp [execOp, ho, hx, hy, run_eqGuard_agg w _ _ _ _ _ _ hm, run_neq_struct, hE, Result.andThen]
  unfold Oper.wp
  rw [hrun, Oper.upon_value]
  exact hK _ _ h
set_option maxRecDepth 100000 in
set_option maxHeartbeats 2000000 in
theorem readSlot_any (v : Value) (ps : List Int) (w : World) (h : Rd .u8 w v ps) (hl : ps.length = 32) (hbd : ∀ z ∈ ps, 0 ≤ z ∧ z < 256) :
    Calls Tryz.prog 88 #[v] w fun e w' => ∃ nm ino kd ev, e = .returned (.tuple #[.agg (entC nm ino kd), ev]) ∧ FaultIs w' w.heap.size (sZero ps || sRight ps) ev 21 ∧ (sZero ps = true → nm = ⟨#[]⟩ ∧ ino = 0 ∧ kd = 0) ∧ (sRight ps = true → nm = sName ps ∧ ino = sIno ps ∧ kd = sKind ps) ∧ Below w.heap.size w w' ∧ nm.size ≤ maxLen := by
  have HX := hide (And.intro h (And.intro hbd hl))
  obtain ⟨a, cap, rfl, _⟩ := h
  have HB0 := hide (show Below w.heap.size w (w.alloc (.cells (entC ⟨#[]⟩ 0 0) 61)) from (Below.refl _ _).alloc (Nat.le_refl _) _)
  have HRes := hide (Blk.new w (entC ⟨#[]⟩ 0 0) 61)
  clear hbd hl
  go_enter Tryz.func88, Tryz.ntmps88
  go_wp2_with (go_at_call 133; fail)
  refine (newReader_any _ ps _ (HX.out.1.below HB0.out)).mono ?_
  rintro e w1 ⟨rfl, r1, b1⟩
  obtain ⟨wA, hwA⟩ : ∃ wA, wA = w.alloc (.cells (entC ⟨#[]⟩ 0 0) 61) := ⟨_, rfl⟩
  have hsA : wA.heap.size = w.heap.size + 1 := by rw [hwA]; simp
  have r1' : Rdr wA w1 (w.heap.size + 1) (w.heap.size + 1 + 1) true (.slice a ps.length cap) ps 0 := by
    have h := r1
    rw [World.size_alloc] at h
    rw [hwA]; exact h
  have b1' : Below wA.heap.size wA w1 := by rw [hwA]; exact b1
  have hR1 : Blk w1 w.heap.size (entC ⟨#[]⟩ 0 0) 61 := by
    have h := HRes.out
    exact h.below b1 h.lt
  have hB1 : Below w.heap.size w w1 := HB0.out.trans (b1.mono (by simp))
  have hs1 : w.heap.size + 2 ≤ w1.heap.size := by have := r1'.ck.lt; omega
  have HwA := hide (And.intro hwA hsA)
  have K1 := hide (And.intro hR1 hB1)
  have H1 := hide (show Rs wA (w1.alloc (.cells (entC ⟨#[]⟩ 0 0) 61)) (w.heap.size + 1) (w.heap.size + 1 + 1) (.slice a ps.length cap) ps w1.heap.size (entC ⟨#[]⟩ 0 0) true 0 from ⟨r1'.alloc _, Blk.new _ _ _⟩)
  clear r1 b1 r1' b1' hwA hsA hR1 hB1
  rw [World.size_alloc]
  go_wp2_with (go_at_call 134; fail)
  refine (number32_any wA _ _ _ true _ ps 0 H1.out.rdr (by rw [HX.out.2.2]; omega) HX.out.2.1).mono ?_
  rintro e w2 ⟨x1, rfl, hN⟩
  obtain ⟨hx1, hr1⟩ : x1 = unle ((ps.drop 0).take 4) ∧ Rdr wA w2 (w.heap.size + 1) (w.heap.size + 1 + 1) true (.slice a ps.length cap) ps (0 + 4) := by
    rcases hN.2 with ⟨_, _, hx, hr⟩ | ⟨hno, _⟩
    · exact ⟨hx, hr⟩
    · exact absurd ⟨rfl, by rw [HX.out.2.2]; omega⟩ hno
  have hg1 : w.heap.size + 1 < w1.heap.size := by omega
  have hgr2 : w2.heap.size ≥ w1.heap.size + 1 := by have := hN.1.size; simp at this; omega
  have N2 := hide (H1.out.stepR hg1 hr1 hN.1)
  have HX1 := hide hx1
  have c1 := (N2.out.blk.cell 1).trans (show (entC ⟨#[]⟩ 0 0)[1]? = some (.int .i64 0) from rfl)
  have f1 := N2.out.blk.frozen 1
  have H2 := hide (show Rs wA (w2.setCell ⟨w1.heap.size, 1, none⟩ (.int .i64 (x1 : Int))) (w.heap.size + 1) (w.heap.size + 1 + 1) (.slice a ps.length cap) ps w1.heap.size (entC ⟨#[]⟩ x1 0) true 4 from N2.out.putC hg1 1 _ (.int .i64 0) rfl (by simp) (by simp))
  clear hx1 hr1 hN H1
  go_wp2_with (go_at_call 135; fail)
  clear c1 f1 N2
  refine (number8_any wA _ _ _ true _ ps 4 H2.out.rdr (by rw [HX.out.2.2]; omega) HX.out.2.1).mono ?_
  rintro e w3 ⟨x2, rfl, hN⟩
  obtain ⟨hx2, hr2⟩ : x2 = unle ((ps.drop 4).take 1) ∧ Rdr wA w3 (w.heap.size + 1) (w.heap.size + 1 + 1) true (.slice a ps.length cap) ps (4 + 1) := by
    rcases hN.2 with ⟨_, _, hx, hr⟩ | ⟨hno, _⟩
    · exact ⟨hx, hr⟩
    · exact absurd ⟨rfl, by rw [HX.out.2.2]; omega⟩ hno
  have N3 := hide (H2.out.stepR hg1 hr2 hN.1)
  have HX2 := hide hx2
  have c1 := (N3.out.blk.cell 2).trans (show (entC ⟨#[]⟩ x1 0)[2]? = some (.int .i64 0) from rfl)
  have f1 := N3.out.blk.frozen 2
  have H3 := hide (show Rs wA (w3.setCell ⟨w1.heap.size, 2, none⟩ (.int .i64 (x2 : Int))) (w.heap.size + 1) (w.heap.size + 1 + 1) (.slice a ps.length cap) ps w1.heap.size (entC ⟨#[]⟩ x1 x2) true 5 from N3.out.putC hg1 2 _ (.int .i64 0) rfl (by simp) (by simp))
  clear hx2 hr2 hN H2
  go_wp2_with (go_at_call 135; fail)
  clear c1 f1 N3
  refine (number8_any wA _ _ _ true _ ps 5 H3.out.rdr (by rw [HX.out.2.2]; omega) HX.out.2.1).mono ?_
  rintro e w4 ⟨x3, rfl, hN⟩
  obtain ⟨hx3, hr3⟩ : x3 = unle ((ps.drop 5).take 1) ∧ Rdr wA w4 (w.heap.size + 1) (w.heap.size + 1 + 1) true (.slice a ps.length cap) ps (5 + 1) := by
    rcases hN.2 with ⟨_, _, hx, hr⟩ | ⟨hno, _⟩
    · exact ⟨hx, hr⟩
    · exact absurd ⟨rfl, by rw [HX.out.2.2]; omega⟩ hno
  have H4 := hide (H3.out.stepR hg1 hr3 hN.1)
  have hx3b : x3 < 256 := by
    have h := unle_lt ((ps.drop 5).take 1) (fun z hz => HX.out.2.1 z (List.mem_of_mem_drop (List.mem_of_mem_take hz)))
    rw [← hx3, show ((ps.drop 5).take 1).length = 1 from by simp [HX.out.2.2]] at h
    omega
  have HX3 := hide hx3
  clear hx3 hr3 hN H3
  go_wp2_with (go_at_call 136; fail)
  refine (take_nn wA _ _ _ true _ ps 6 x3 _ rfl H4.out.rdr (.inr (by omega)) (by omega) (by rw [HX.out.2.2]; omega)).mono ?_
  rintro e w5 ⟨sv, rfl, hT⟩
  have hgr5 := hT.1
  obtain ⟨xs, ok5, p5, hrd5, hr5, hp5, hcase⟩ : ∃ xs ok5 p5, Rd .u8 wA sv xs ∧ Rdr wA w5 (w.heap.size + 1) (w.heap.size + 1 + 1) ok5 (.slice a ps.length cap) ps p5 ∧ p5 ≤ 32 ∧ ((x3 ≤ 26 ∧ xs = (ps.drop 6).take x3 ∧ ok5 = true ∧ p5 = 6 + x3) ∨ (26 < x3 ∧ xs = [] ∧ ok5 = false)) := by
    rcases hT.2 with ⟨_, _, hle, h1, h2⟩ | ⟨hno, h1, h2⟩
    · rw [HX.out.2.2] at hle
      exact ⟨_, true, 6 + x3, by simpa using h1, by simpa using h2, by omega, .inl ⟨by omega, rfl, rfl, rfl⟩⟩
    · refine ⟨[], false, 6, by rw [h1]; exact ⟨none, 0, rfl, by simp, fun h => absurd rfl h, by simp, by simp⟩, h2, by omega, .inr ⟨?_, rfl, rfl⟩⟩
      rcases Nat.lt_or_ge 26 x3 with h | h
      · exact h
      · exact absurd ⟨rfl, by omega, by rw [HX.out.2.2]; omega⟩ hno
  have HCase := hide hcase
  have HLen := hide (show xs.length ≤ maxLen from by
    have h : xs.length ≤ 32 := by
      rcases hcase with ⟨_, rfl, _⟩ | ⟨_, rfl, _⟩
      · rw [List.length_take, List.length_drop]; omega
      · simp
    unfold maxLen
    omega)
  have N5 := hide (H4.out.stepR hg1 hr5 hgr5)
  have R5 := hide (hr5.lift hrd5)
  obtain ⟨nm, hnm⟩ : ∃ nm, nm = strOfNums xs := ⟨_, rfl⟩
  have HNm := hide hnm
  have c1 := (N5.out.blk.cell 0).trans (show (entC ⟨#[]⟩ x1 x2)[0]? = some (.string ⟨#[]⟩) from rfl)
  have f1 := N5.out.blk.frozen 0
  have H6 := hide (show Rs wA (w5.setCell ⟨w1.heap.size, 0, none⟩ (.string nm)) (w.heap.size + 1) (w.heap.size + 1 + 1) (.slice a ps.length cap) ps w1.heap.size (entC nm x1 x2) ok5 p5 from N5.out.putC hg1 0 _ (.string ⟨#[]⟩) rfl (by simp) (by simp))
  obtain ⟨sa, sl, sc, rfl⟩ : ∃ sa sl sc, sv = .slice sa sl sc := by obtain ⟨q, r, h, _⟩ := hrd5; exact ⟨q, _, r, h⟩
  clear hT hrd5 hr5 hgr5 H4 hnm hcase
  go_wp2_with (first | (refine wpList_conv rfl _ rfl _ rfl xs R5.out ?_; rw [← HNm.out]) | (go_at_call 137; fail))
  refine (end_any wA _ _ _ ok5 _ ps p5 32 H6.out.rdr hp5 (by omega) (by omega) (by rw [HX.out.2.2]; omega)).mono ?_
  rintro e w7 ⟨rfl, hgr7, p7, hr7⟩
  have H7 := hide (H6.out.stepR hg1 hr7 hgr7)
  clear c1 f1 hr7 hgr7 H6 N5 R5
  obtain ⟨ok7, hok7⟩ : ∃ ok7, ok7 = (ok5 && (((ps.drop p5).take (32 - p5)).all (fun z => decide (z = 0)) && decide (ps.length = 32))) := ⟨_, rfl⟩
  rw [← hok7] at H7
  have HOk7 := hide hok7
  clear hok7
  have HZ := hide (show (entC nm x1 x2).size = 3 from rfl)
  have HE := hide (fun w => eqEnt w 9998 nm x1 x2 ⟨#[]⟩ 0 0)
  cases hz : entEq nm x1 x2 ⟨#[]⟩ 0 0 with
  | true =>
    have HE2 := hide (fun w => (HE.out w).trans (by rw [hz]))
    have HZt := hide hz
    clear hz HE
    go_wp2_with (first | (refine wpList_load_row rfl 61 _ rfl w1.heap.size rfl 61 (entC nm x1 x2) (0, 0) _ H7.out.blk Tryz.underlying61 rfl infoD3 ?_) | (refine wpList_neqE rfl 61 _ _ _ rfl (entC nm x1 x2) (entC ⟨#[]⟩ 0 0) rfl rfl guardEnt true (HE2.out _) ?_))
    simp only [Act.put, List.setIfInBounds_toArray, List.set_cons_zero, List.set_cons_succ, Bool.not_true, Bool.not_false]
    obtain ⟨ev, cE, hfE⟩ := H7.out.rdr.ck.fault
    have HFE := hide hfE
    have HOld := hide (show Blk w7 w.heap.size (entC ⟨#[]⟩ 0 0) 61 ∧ Below w.heap.size w w7 from by
      have h1 := H7.out.rdr.old
      refine ⟨(h1.block w.heap.size (by omega)).trans (by rw [HwA.out.1]; exact HRes.out), ?_⟩
      rw [HwA.out.1] at h1
      exact HB0.out.trans (h1.mono (by omega)))
    have HcE := hide cE
    clear hfE cE
    refine wp_region_noPanic ?_
    refine wp_region_held_drew (S := fun w' => Blk w' w1.heap.size (entC nm x1 x2) 61 ∧ w'.cell? ⟨w.heap.size + 1, 1, none⟩ = some ev) (by kernel_rfl) ⟨H7.out.blk, HcE.out⟩ (fun hH => ?_)
    refine wpAnyH_take (i := 0) (oi := _) (v := (.agg (entC nm x1 x2))) rfl (by kernel_rfl) (by kernel_rfl) (by kernel_rfl) (fun _ _ _ h => h) (yieldsIf_load_mid (by rfl) 61 _ rfl w1.heap.size 0 rfl (entC nm x1 x2).toList _ (fun w' h => ent_range h.1) Tryz.underlying61 rfl infoD3) hH ?_
    try simp only [Act.put, List.getElem_toArray, List.getElem_cons_zero, List.getElem_cons_succ, List.setIfInBounds_toArray, List.set_cons_zero, List.set_cons_succ]
    refine wpAnyH_take (i := 1) (oi := _) (v := (.pointer (some ⟨w.heap.size + 1, 0, none⟩))) rfl (by kernel_rfl) (by kernel_rfl) (by kernel_rfl) (fun _ _ _ h => h) (Or.inl ⟨by rfl, fun w' hw' => by go_simp⟩) hH ?_
    try simp only [Act.put, List.getElem_toArray, List.getElem_cons_zero, List.getElem_cons_succ, List.setIfInBounds_toArray, List.set_cons_zero, List.set_cons_succ]
    refine wpAnyH_take (i := 2) (oi := _) (v := (.pointer (some ⟨w.heap.size + 1, 0, none⟩))) rfl (by kernel_rfl) (by kernel_rfl) (by kernel_rfl) (fun _ _ _ h => h) (Or.inl ⟨by rfl, fun w' hw' => by go_simp⟩) hH ?_
    try simp only [Act.put, List.getElem_toArray, List.getElem_cons_zero, List.getElem_cons_succ, List.setIfInBounds_toArray, List.set_cons_zero, List.set_cons_succ]
    refine wpAnyH_take (i := 3) (oi := _) (v := (.pointer (some ⟨w.heap.size + 1, 0, none⟩))) rfl (by kernel_rfl) (by kernel_rfl) (by kernel_rfl) (fun _ _ _ h => h) (Or.inl ⟨by rfl, fun w' hw' => by go_simp⟩) hH ?_
    try simp only [Act.put, List.getElem_toArray, List.getElem_cons_zero, List.getElem_cons_succ, List.setIfInBounds_toArray, List.set_cons_zero, List.set_cons_succ]
    refine wpAnyH_take (i := 4) (oi := _) (v := (.pointer (some ⟨w.heap.size + 1, 1, none⟩))) rfl (by kernel_rfl) (by kernel_rfl) (by kernel_rfl) (fun _ _ _ h => h) (Or.inl ⟨by rfl, fun w' hw' => by go_simp⟩) hH ?_
    try simp only [Act.put, List.getElem_toArray, List.getElem_cons_zero, List.getElem_cons_succ, List.setIfInBounds_toArray, List.set_cons_zero, List.set_cons_succ]
    refine wpAnyH_take (i := 5) (oi := _) (v := ev) rfl (by kernel_rfl) (by kernel_rfl) (by kernel_rfl) (fun _ _ _ h => h) (Or.inl ⟨by rfl, fun w' hw' => by have hc := hw'.2; clear hw'; go_simp⟩) hH ?_
    try simp only [Act.put, List.getElem_toArray, List.getElem_cons_zero, List.getElem_cons_succ, List.setIfInBounds_toArray, List.set_cons_zero, List.set_cons_succ]
    refine wpAnyH_ready (rs := [6]) (by kernel_rfl) (by simp) ?_
    refine AllReadyH.cons (o := _) rfl (fun K hK => ?_) AllReadyH.nil
    rw [if_pos (by rfl)]
    refine wp_store_row 61 _ _ rfl w.heap.size (entC nm x1 x2) rfl rfl 61 (entC ⟨#[]⟩ 0 0) HOld.out.1 infoD3 rfl entC_one ?_
    refine hK.out _ _ ⟨(setRow_block _ _ _ _ (by omega)).trans hH.1, (World.cell?_of_block (a := ⟨w.heap.size + 1, 1, none⟩) (setRow_block _ _ _ _ (by show w.heap.size + 1 ≠ w.heap.size; omega))).trans hH.2⟩ (fun hH9 => ?_)
    clear hK K
    try simp only [Act.put, List.getElem_toArray, List.getElem_cons_zero, List.getElem_cons_succ, List.setIfInBounds_toArray, List.set_cons_zero, List.set_cons_succ]
    refine wpAnyH_ready (rs := [7]) (by kernel_rfl) (by simp) ?_
    refine AllReadyH.cons (o := _) rfl (fun K hK => ?_) AllReadyH.nil
    go_simp
    refine hK.out _ _ hH9 (fun hH10 => ?_)
    clear hK K
    try simp only [Act.put, List.getElem_toArray, List.getElem_cons_zero, List.getElem_cons_succ, List.setIfInBounds_toArray, List.set_cons_zero, List.set_cons_succ]
    refine wpAnyH_done (by kernel_rfl) (NoPanic.normal ?_) _
    clear hH hH9 hH10
    go_wp2
    refine bodyPost_ret (v := .tuple #[.agg (entC nm x1 x2), ev]) (results_row_tmp rfl _ _ w.heap.size 61 (entC nm x1 x2) (0, 0) _ ev rfl rfl (Blk.row (w := World.drew w7) HOld.out.1 _) Tryz.underlying61 rfl infoD3) rfl ?_
    obtain ⟨q1, q2, q3⟩ := (slot_cases ps HX.out.2.2 HX.out.2.1 x1 x2 x3 HX1.out HX2.out HX3.out xs ok5 p5 HCase.out nm HNm.out ok7 HOk7.out).1 HZt.out
    refine ⟨nm, x1, x2, ev, rfl, ?_, fun _ => q3, fun h => by (rw [q2] at h; cases h), below_setRow (w := World.drew w7) HOld.out.2.drew (Nat.le_refl _) _, by rw [HNm.out, strOfNums_size]; exact HLen.out⟩
    · have h9 := HFE.out
      rw [q1] at h9
      have h10 : FaultIs (World.setRow (World.drew w7) w.heap.size (entC nm x1 x2)) (w.heap.size + 1 + 1) (sZero ps || sRight ps) ev 21 := FaultIs.keepC (w := w7) h9 (fun k o v hl hc => (World.cell?_of_block (a := ⟨k, o, none⟩) (setRow_block (World.drew w7) w.heap.size _ k (by omega))).trans hc)
      exact h10.mono (by omega)
  | false =>
    have HE2 := hide (fun w => (HE.out w).trans (by rw [hz]))
    have HZt := hide hz
    clear hz HE
    have cC := H7.out.rdr.ck.1
    go_wp2_with (first | (refine wpList_load_row rfl 61 _ rfl w1.heap.size rfl 61 (entC nm x1 x2) (0, 0) _ H7.out.blk Tryz.underlying61 rfl infoD3 ?_) | (refine wpList_neqE rfl 61 _ _ _ rfl (entC nm x1 x2) (entC ⟨#[]⟩ 0 0) rfl rfl guardEnt false (HE2.out _) ?_) | (go_at_call 138; fail))
    simp only [Act.put, List.setIfInBounds_toArray, List.set_cons_zero, List.set_cons_succ, Bool.not_true, Bool.not_false]
    have hl7 : w1.heap.size < w7.heap.size := H7.out.blk.lt
    have HcC := hide cC
    clear cC
    refine wp_region_noPanic ?_
    refine wp_region_held_drew (S := fun w' => Blk w' w1.heap.size (entC nm x1 x2) 61 ∧ w'.cell? ⟨w.heap.size + 1, 0, none⟩ = some (.int .i64 21)) (by kernel_rfl) ⟨H7.out.blk, HcC.out⟩ (fun hH => ?_)
    refine wpAnyH_take (i := 0) (oi := _) (v := (.pointer (some ⟨w.heap.size + 1, 0, none⟩))) rfl (by kernel_rfl) (by kernel_rfl) (by kernel_rfl) (fun _ _ _ h => h) (Or.inl ⟨by rfl, fun w' hw' => by go_simp⟩) hH ?_
    try simp only [Act.put, List.getElem_toArray, List.getElem_cons_zero, List.getElem_cons_succ, List.setIfInBounds_toArray, List.set_cons_zero, List.set_cons_succ]
    refine wpAnyH_take (i := 1) (oi := _) (v := (.pointer (some ⟨w.heap.size + 1, 0, none⟩))) rfl (by kernel_rfl) (by kernel_rfl) (by kernel_rfl) (fun _ _ _ h => h) (Or.inl ⟨by rfl, fun w' hw' => by go_simp⟩) hH ?_
    try simp only [Act.put, List.getElem_toArray, List.getElem_cons_zero, List.getElem_cons_succ, List.setIfInBounds_toArray, List.set_cons_zero, List.set_cons_succ]
    refine wpAnyH_take (i := 2) (oi := _) (v := (.pointer (some ⟨w.heap.size + 1, 0, none⟩))) rfl (by kernel_rfl) (by kernel_rfl) (by kernel_rfl) (fun _ _ _ h => h) (Or.inl ⟨by rfl, fun w' hw' => by go_simp⟩) hH ?_
    try simp only [Act.put, List.getElem_toArray, List.getElem_cons_zero, List.getElem_cons_succ, List.setIfInBounds_toArray, List.set_cons_zero, List.set_cons_succ]
    refine wpAnyH_take (i := 3) (oi := _) (v := (.agg (entC nm x1 x2))) rfl (by kernel_rfl) (by kernel_rfl) (by kernel_rfl) (fun _ _ _ h => h) (yieldsIf_load_mid (by rfl) 61 _ rfl w1.heap.size 0 rfl (entC nm x1 x2).toList _ (fun w' h => ent_range h.1) Tryz.underlying61 rfl infoD3) hH ?_
    try simp only [Act.put, List.getElem_toArray, List.getElem_cons_zero, List.getElem_cons_succ, List.setIfInBounds_toArray, List.set_cons_zero, List.set_cons_succ]
    refine wpAnyH_take (i := 4) (oi := _) (v := (.pointer (some ⟨w.heap.size + 1, 0, none⟩))) rfl (by kernel_rfl) (by kernel_rfl) (by kernel_rfl) (fun _ _ _ h => h) (Or.inl ⟨by rfl, fun w' hw' => by go_simp⟩) hH ?_
    try simp only [Act.put, List.getElem_toArray, List.getElem_cons_zero, List.getElem_cons_succ, List.setIfInBounds_toArray, List.set_cons_zero, List.set_cons_succ]
    refine wpAnyH_take (i := 5) (oi := _) (v := (.pointer (some ⟨w.heap.size + 1, 0, none⟩))) rfl (by kernel_rfl) (by kernel_rfl) (by kernel_rfl) (fun _ _ _ h => h) (Or.inl ⟨by rfl, fun w' hw' => by go_simp⟩) hH ?_
    try simp only [Act.put, List.getElem_toArray, List.getElem_cons_zero, List.getElem_cons_succ, List.setIfInBounds_toArray, List.set_cons_zero, List.set_cons_succ]
    refine wpAnyH_take (i := 6) (oi := _) (v := (.pointer (some ⟨w.heap.size + 1, 0, none⟩))) rfl (by kernel_rfl) (by kernel_rfl) (by kernel_rfl) (fun _ _ _ h => h) (Or.inl ⟨by rfl, fun w' hw' => by go_simp⟩) hH ?_
    try simp only [Act.put, List.getElem_toArray, List.getElem_cons_zero, List.getElem_cons_succ, List.setIfInBounds_toArray, List.set_cons_zero, List.set_cons_succ]
    refine wpAnyH_take (i := 7) (oi := _) (v := (.pointer (some ⟨w.heap.size + 1, 0, none⟩))) rfl (by kernel_rfl) (by kernel_rfl) (by kernel_rfl) (fun _ _ _ h => h) (Or.inl ⟨by rfl, fun w' hw' => by go_simp⟩) hH ?_
    try simp only [Act.put, List.getElem_toArray, List.getElem_cons_zero, List.getElem_cons_succ, List.setIfInBounds_toArray, List.set_cons_zero, List.set_cons_succ]
    refine wpAnyH_take (i := 8) (oi := _) (v := (.int .i64 21)) rfl (by kernel_rfl) (by kernel_rfl) (by kernel_rfl) (fun _ _ _ h => h) (Or.inl ⟨by rfl, fun w' hw' => by have hc := hw'.2; clear hw'; go_simp⟩) hH ?_
    try simp only [Act.put, List.getElem_toArray, List.getElem_cons_zero, List.getElem_cons_succ, List.setIfInBounds_toArray, List.set_cons_zero, List.set_cons_succ]
    refine wpAnyH_ready (rs := [9]) (by kernel_rfl) (by simp) ?_
    refine AllReadyH.cons (o := _) rfl (fun K hK => ?_) AllReadyH.nil
    go_simp
    refine (direntFault_any nm x1 x2 21 _).mono ?_
    rintro e w8 ⟨ev1, rfl, hf8, hb8⟩
    have b8 : Below w7.heap.size w7 w8 := ((Below.refl _ w7).drew).trans hb8
    have hs8 : w7.heap.size ≤ w8.heap.size := b8.size
    have R8 := hide (show Rs wA w8 (w.heap.size + 1) (w.heap.size + 1 + 1) (.slice a ps.length cap) ps w1.heap.size (entC nm x1 x2) ok7 p7 from ⟨H7.out.rdr.below b8, H7.out.blk.below b8 hl7⟩)
    have F8 := hide (show FaultIs w8 (w.heap.size + 1 + 1) (wi x1 1 1000 && wi x2 1 3) ev1 21 from hf8.mono (by show w.heap.size + 1 + 1 ≤ w7.heap.size; omega))
    refine hK.out _ _ ⟨R8.out.blk, R8.out.rdr.ck.1⟩ (fun hH8 => ?_)
    clear hK K hH hf8 hb8 b8
    try simp only [Act.put, List.getElem_toArray, List.getElem_cons_zero, List.getElem_cons_succ, List.setIfInBounds_toArray, List.set_cons_zero, List.set_cons_succ]
    refine wpAnyH_ready (rs := [10]) (by kernel_rfl) (by simp) ?_
    refine AllReadyH.cons (o := _) rfl (fun K hK => ?_) AllReadyH.nil
    go_simp
    refine (inside_both (w.heap.size + 1) (w.heap.size + 1 + 1) _ 21 ok7 _ ev1 w8 R8.out.rdr.ck F8.out (by omega) (by omega)).mono ?_
    rintro e w9 ⟨rfl, hc9, ht9⟩
    have R9 := hide (R8.out.stepR hg1 (R8.out.rdr.tch hc9 ht9) ht9.1)
    have hs9 : w8.heap.size ≤ w9.heap.size := ht9.1.size
    refine hK.out _ _ ⟨R9.out.blk, R9.out.rdr.ck.1⟩ (fun hH9 => ?_)
    clear hK K hH8 hc9 ht9
    try simp only [Act.put, List.getElem_toArray, List.getElem_cons_zero, List.getElem_cons_succ, List.setIfInBounds_toArray, List.set_cons_zero, List.set_cons_succ]
    refine wpAnyH_done (by kernel_rfl) (NoPanic.normal ?_) _
    clear hH9
    go_wp2_with fail
    have cN := hide ((R9.out.blk.cell 0).trans (show (entC nm x1 x2)[0]? = some (.string nm) from rfl))
    refine wp_region_noPanic ?_
    refine wp_region_held_drew (S := fun w' => True ∧ w'.cell? ⟨w1.heap.size, 0, none⟩ = some (.string nm)) (by kernel_rfl) ⟨trivial, cN.out⟩ (fun hH => ?_)
    refine wpAnyH_take (i := 0) (oi := _) (v := (.pointer (some ⟨w.heap.size + 1, 0, none⟩))) rfl (by kernel_rfl) (by kernel_rfl) (by kernel_rfl) (fun _ _ _ h => h) (Or.inl ⟨by rfl, fun w' hw' => by go_simp⟩) hH ?_
    try simp only [Act.put, List.getElem_toArray, List.getElem_cons_zero, List.getElem_cons_succ, List.setIfInBounds_toArray, List.set_cons_zero, List.set_cons_succ]
    refine wpAnyH_take (i := 1) (oi := _) (v := (.pointer (some ⟨w.heap.size + 1, 0, none⟩))) rfl (by kernel_rfl) (by kernel_rfl) (by kernel_rfl) (fun _ _ _ h => h) (Or.inl ⟨by rfl, fun w' hw' => by go_simp⟩) hH ?_
    try simp only [Act.put, List.getElem_toArray, List.getElem_cons_zero, List.getElem_cons_succ, List.setIfInBounds_toArray, List.set_cons_zero, List.set_cons_succ]
    refine wpAnyH_take (i := 2) (oi := _) (v := (.pointer (some ⟨w.heap.size + 1, 0, none⟩))) rfl (by kernel_rfl) (by kernel_rfl) (by kernel_rfl) (fun _ _ _ h => h) (Or.inl ⟨by rfl, fun w' hw' => by go_simp⟩) hH ?_
    try simp only [Act.put, List.getElem_toArray, List.getElem_cons_zero, List.getElem_cons_succ, List.setIfInBounds_toArray, List.set_cons_zero, List.set_cons_succ]
    refine wpAnyH_take (i := 3) (oi := _) (v := (.pointer (some ⟨w1.heap.size, 0, none⟩))) rfl (by kernel_rfl) (by kernel_rfl) (by kernel_rfl) (fun _ _ _ h => h) (Or.inl ⟨by rfl, fun w' hw' => by go_simp⟩) hH ?_
    try simp only [Act.put, List.getElem_toArray, List.getElem_cons_zero, List.getElem_cons_succ, List.setIfInBounds_toArray, List.set_cons_zero, List.set_cons_succ]
    refine wpAnyH_take (i := 4) (oi := _) (v := (.string nm)) rfl (by kernel_rfl) (by kernel_rfl) (by kernel_rfl) (fun _ _ _ h => h) (Or.inl ⟨by rfl, fun w' hw' => by have hc := hw'.2; clear hw'; go_simp⟩) hH ?_
    try simp only [Act.put, List.getElem_toArray, List.getElem_cons_zero, List.getElem_cons_succ, List.setIfInBounds_toArray, List.set_cons_zero, List.set_cons_succ]
    refine wpAnyH_ready (rs := [5]) (by kernel_rfl) (by simp) ?_
    refine AllReadyH.cons (o := _) rfl (fun K hK => ?_) AllReadyH.nil
    go_simp
    refine (Chk.impl_any nm _ (by rw [HNm.out, strOfNums_size]; exact HLen.out)).mono ?_
    rintro e w10 ⟨rfl, hw10⟩
    have b10 : Below w9.heap.size w9 w10 := by
      refine ((Below.refl _ w9).drew).trans ?_
      rcases hw10 with rfl | ⟨pos, rfl⟩
      · exact Below.refl _ _
      · exact Below.iterD (World.drew w9) nm pos
    have hs10 : w9.heap.size ≤ w10.heap.size := b10.size
    have R10 := hide (show Rs wA w10 (w.heap.size + 1) (w.heap.size + 1 + 1) (.slice a ps.length cap) ps w1.heap.size (entC nm x1 x2) _ p7 from ⟨R9.out.rdr.below b10, R9.out.blk.below b10 R9.out.blk.lt⟩)
    refine hK.out _ _ ⟨trivial, (R10.out.blk.cell 0).trans (show (entC nm x1 x2)[0]? = some (.string nm) from rfl)⟩ (fun hH10 => ?_)
    clear hK K hH b10 hw10
    try simp only [Act.put, List.getElem_toArray, List.getElem_cons_zero, List.getElem_cons_succ, List.setIfInBounds_toArray, List.set_cons_zero, List.set_cons_succ]
    refine wpAnyH_take (i := 6) (oi := _) (v := (.bool (decide (Chk.chkS nm = 0)))) rfl (by kernel_rfl) (by kernel_rfl) (by kernel_rfl) (fun _ _ _ h => h) (Or.inl ⟨by rfl, fun w' hw' => by go_simp; exact beq_dec _⟩) hH10 ?_
    try simp only [Act.put, List.getElem_toArray, List.getElem_cons_zero, List.getElem_cons_succ, List.setIfInBounds_toArray, List.set_cons_zero, List.set_cons_succ]
    refine wpAnyH_ready (rs := [7]) (by kernel_rfl) (by simp) ?_
    refine AllReadyH.cons (o := _) rfl (fun K hK => ?_) AllReadyH.nil
    go_simp
    refine (need_any (w.heap.size + 1) (w.heap.size + 1 + 1) _ 21 _ _ w10 R10.out.rdr.ck (by omega) (by omega)).mono ?_
    rintro e w11 ⟨rfl, hc11, ht11⟩
    have R11 := hide (R10.out.stepR hg1 (R10.out.rdr.tch hc11 ht11) ht11.1)
    have hs11 : w10.heap.size ≤ w11.heap.size := ht11.1.size
    refine hK.out _ _ ⟨trivial, (R11.out.blk.cell 0).trans (show (entC nm x1 x2)[0]? = some (.string nm) from rfl)⟩ (fun hH11 => ?_)
    clear hK K hH10 hc11 ht11
    try simp only [Act.put, List.getElem_toArray, List.getElem_cons_zero, List.getElem_cons_succ, List.setIfInBounds_toArray, List.set_cons_zero, List.set_cons_succ]
    refine wpAnyH_done (by kernel_rfl) (NoPanic.normal ?_) _
    clear hH11
    go_wp2_with fail
    obtain ⟨ev, cE, hfE⟩ := R11.out.rdr.ck.fault
    have HFE := hide hfE
    have HOld := hide (show Blk w11 w.heap.size (entC ⟨#[]⟩ 0 0) 61 ∧ Below w.heap.size w w11 from by
      have h1 := R11.out.rdr.old
      refine ⟨(h1.block w.heap.size (by omega)).trans (by rw [HwA.out.1]; exact HRes.out), ?_⟩
      rw [HwA.out.1] at h1
      exact HB0.out.trans (h1.mono (by omega)))
    have HcE := hide cE
    clear hfE cE
    refine wp_region_noPanic ?_
    refine wp_region_held_drew (S := fun w' => Blk w' w1.heap.size (entC nm x1 x2) 61 ∧ w'.cell? ⟨w.heap.size + 1, 1, none⟩ = some ev) (by kernel_rfl) ⟨R11.out.blk, HcE.out⟩ (fun hH => ?_)
    refine wpAnyH_take (i := 0) (oi := _) (v := (.agg (entC nm x1 x2))) rfl (by kernel_rfl) (by kernel_rfl) (by kernel_rfl) (fun _ _ _ h => h) (yieldsIf_load_mid (by rfl) 61 _ rfl w1.heap.size 0 rfl (entC nm x1 x2).toList _ (fun w' h => ent_range h.1) Tryz.underlying61 rfl infoD3) hH ?_
    try simp only [Act.put, List.getElem_toArray, List.getElem_cons_zero, List.getElem_cons_succ, List.setIfInBounds_toArray, List.set_cons_zero, List.set_cons_succ]
    refine wpAnyH_take (i := 1) (oi := _) (v := (.pointer (some ⟨w.heap.size + 1, 0, none⟩))) rfl (by kernel_rfl) (by kernel_rfl) (by kernel_rfl) (fun _ _ _ h => h) (Or.inl ⟨by rfl, fun w' hw' => by go_simp⟩) hH ?_
    try simp only [Act.put, List.getElem_toArray, List.getElem_cons_zero, List.getElem_cons_succ, List.setIfInBounds_toArray, List.set_cons_zero, List.set_cons_succ]
    refine wpAnyH_take (i := 2) (oi := _) (v := (.pointer (some ⟨w.heap.size + 1, 0, none⟩))) rfl (by kernel_rfl) (by kernel_rfl) (by kernel_rfl) (fun _ _ _ h => h) (Or.inl ⟨by rfl, fun w' hw' => by go_simp⟩) hH ?_
    try simp only [Act.put, List.getElem_toArray, List.getElem_cons_zero, List.getElem_cons_succ, List.setIfInBounds_toArray, List.set_cons_zero, List.set_cons_succ]
    refine wpAnyH_take (i := 3) (oi := _) (v := (.pointer (some ⟨w.heap.size + 1, 0, none⟩))) rfl (by kernel_rfl) (by kernel_rfl) (by kernel_rfl) (fun _ _ _ h => h) (Or.inl ⟨by rfl, fun w' hw' => by go_simp⟩) hH ?_
    try simp only [Act.put, List.getElem_toArray, List.getElem_cons_zero, List.getElem_cons_succ, List.setIfInBounds_toArray, List.set_cons_zero, List.set_cons_succ]
    refine wpAnyH_take (i := 4) (oi := _) (v := (.pointer (some ⟨w.heap.size + 1, 1, none⟩))) rfl (by kernel_rfl) (by kernel_rfl) (by kernel_rfl) (fun _ _ _ h => h) (Or.inl ⟨by rfl, fun w' hw' => by go_simp⟩) hH ?_
    try simp only [Act.put, List.getElem_toArray, List.getElem_cons_zero, List.getElem_cons_succ, List.setIfInBounds_toArray, List.set_cons_zero, List.set_cons_succ]
    refine wpAnyH_take (i := 5) (oi := _) (v := ev) rfl (by kernel_rfl) (by kernel_rfl) (by kernel_rfl) (fun _ _ _ h => h) (Or.inl ⟨by rfl, fun w' hw' => by have hc := hw'.2; clear hw'; go_simp⟩) hH ?_
    try simp only [Act.put, List.getElem_toArray, List.getElem_cons_zero, List.getElem_cons_succ, List.setIfInBounds_toArray, List.set_cons_zero, List.set_cons_succ]
    refine wpAnyH_ready (rs := [6]) (by kernel_rfl) (by simp) ?_
    refine AllReadyH.cons (o := _) rfl (fun K hK => ?_) AllReadyH.nil
    rw [if_pos (by rfl)]
    refine wp_store_row 61 _ _ rfl w.heap.size (entC nm x1 x2) rfl rfl 61 (entC ⟨#[]⟩ 0 0) HOld.out.1 infoD3 rfl entC_one ?_
    refine hK.out _ _ ⟨(setRow_block _ _ _ _ (by omega)).trans hH.1, (World.cell?_of_block (a := ⟨w.heap.size + 1, 1, none⟩) (setRow_block _ _ _ _ (by show w.heap.size + 1 ≠ w.heap.size; omega))).trans hH.2⟩ (fun hH9 => ?_)
    clear hK K
    try simp only [Act.put, List.getElem_toArray, List.getElem_cons_zero, List.getElem_cons_succ, List.setIfInBounds_toArray, List.set_cons_zero, List.set_cons_succ]
    refine wpAnyH_ready (rs := [7]) (by kernel_rfl) (by simp) ?_
    refine AllReadyH.cons (o := _) rfl (fun K hK => ?_) AllReadyH.nil
    go_simp
    refine hK.out _ _ hH9 (fun hH10 => ?_)
    clear hK K
    try simp only [Act.put, List.getElem_toArray, List.getElem_cons_zero, List.getElem_cons_succ, List.setIfInBounds_toArray, List.set_cons_zero, List.set_cons_succ]
    refine wpAnyH_done (by kernel_rfl) (NoPanic.normal ?_) _
    clear hH hH9 hH10
    go_wp2
    refine bodyPost_ret (v := .tuple #[.agg (entC nm x1 x2), ev]) (results_row_tmp rfl _ _ w.heap.size 61 (entC nm x1 x2) (0, 0) _ ev rfl rfl (Blk.row (w := World.drew w11) HOld.out.1 _) Tryz.underlying61 rfl infoD3) rfl ?_
    obtain ⟨q1, q2, q3⟩ := (slot_cases ps HX.out.2.2 HX.out.2.1 x1 x2 x3 HX1.out HX2.out HX3.out xs ok5 p5 HCase.out nm HNm.out ok7 HOk7.out).2 HZt.out
    refine ⟨nm, x1, x2, ev, rfl, ?_, fun h => by (rw [q2] at h; cases h), q3, below_setRow (w := World.drew w11) HOld.out.2.drew (Nat.le_refl _) _, by rw [HNm.out, strOfNums_size]; exact HLen.out⟩
    · have h9 := HFE.out
      rw [q1] at h9
      have h10 : FaultIs (World.setRow (World.drew w11) w.heap.size (entC nm x1 x2)) (w.heap.size + 1 + 1) (sZero ps || sRight ps) ev 21 := FaultIs.keepC (w := w11) h9 (fun k o v hl hc => (World.cell?_of_block (a := ⟨k, o, none⟩) (setRow_block (World.drew w11) w.heap.size _ k (by omega))).trans hc)
      exact h10.mono (by omega)
end Go.Proofs.YtplieplmhdfndaaGreatDoor
