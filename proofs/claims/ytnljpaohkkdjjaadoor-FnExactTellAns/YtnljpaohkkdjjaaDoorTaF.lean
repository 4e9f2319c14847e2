/- The model's TellAns. -/
import Derived.Test.YtnljpaohkkdjjaaDoorTaE
import Derived.Test.YtnljpaohkkdjjaaDoorCells
import Derived.Deep.DeepCutAuto
import Derived.Deep.CutBlock
import Derived.Deep.RegionWith
import Derived.Deep.MidRow
namespace Go.Proofs.YtnljpaohkkdjjaaDoor
set_option linter.unusedVariables false
set_option linter.unusedSimpArgs false
open Go.RowKit

/-- An entry: name, number, kind. -/
abbrev EK := ByteArray × Int × Int
def entK (e : EK) : Array Value := #[.string e.1, .int .i64 e.2.1, .int .i64 e.2.2]
def nameL (e : EK) : List UInt8 := 32 :: (wordL e.1.data.toList ++ 58 :: joinL 58 [e.2.1, e.2.2])
def namesL (L : List EK) : List UInt8 := L.flatMap nameL
def In64 (z : Int) : Prop := -9223372036854775808 ≤ z ∧ z ≤ 9223372036854775807
def allZ (zs : List Int) : Bool := zs.all (· == 0)
def tellL (cd nn : Int) (zs : List UInt8) (ss : List Int) (L : List EK) (us : List Int) : List UInt8 :=
  ((((Lib.itoa cd ++ 32 :: Lib.itoa nn) ++ (if 0 < zs.length then 32 :: 61 :: wordL zs else [])) ++ (if allZ ss then [] else 32 :: 115 :: 116 :: 97 :: 116 :: 58 :: joinL 58 ss)) ++ namesL L) ++ (if allZ us then [] else 32 :: 117 :: 115 :: 97 :: 103 :: 101 :: 58 :: joinL 58 us)
/-- What the names hold together. -/
def sizK (L : List EK) : Nat := (L.map fun e => e.1.size).sum
theorem nameL_len (e : EK) (h : In64 e.2.1) (h2 : In64 e.2.2) : (nameL e).length ≤ 3 * e.1.size + 50 := by
  have h1 := word_len e.1.data.toList
  have h3 : (joinL 58 [e.2.1, e.2.2]).length ≤ 22 * 2 := join_bound (zs := [e.2.1, e.2.2]) (fun z hz => by
    simp at hz
    rcases hz with rfl | rfl
    · exact h
    · exact h2)
  have h4 : e.1.data.toList.length = e.1.size := rfl
  unfold nameL
  simp only [List.length_cons, List.length_append]
  omega
theorem namesL_len : ∀ L : List EK, (∀ e ∈ L, In64 e.2.1 ∧ In64 e.2.2) → (namesL L).length ≤ 3 * sizK L + 50 * L.length
  | [], _ => by simp [namesL]
  | e :: L, h => by
    have h1 := nameL_len e (h e (List.mem_cons_self ..)).1 (h e (List.mem_cons_self ..)).2
    have h2 := namesL_len L (fun x hx => h x (List.mem_cons_of_mem _ hx))
    have h3 : sizK (e :: L) = e.1.size + sizK L := by simp [sizK]
    have h4 : namesL (e :: L) = nameL e ++ namesL L := by simp [namesL]
    rw [h4, h3, List.length_append, List.length_cons]
    omega
theorem sizK_take (L : List EK) (k : Nat) : sizK (L.take k) ≤ sizK L := by
  have h : sizK (L.take k ++ L.drop k) = sizK (L.take k) + sizK (L.drop k) := by simp only [sizK, List.map_append, List.sum_append]
  rw [List.take_append_drop] at h
  omega
theorem sizK_at {L : List EK} {k : Nat} {e : EK} (h : L[k]? = some e) : e.1.size ≤ sizK L := by
  have h1 : e ∈ L := List.mem_of_getElem? h
  obtain ⟨a, b, rfl⟩ := List.append_of_mem h1
  simp [sizK]
  omega
theorem namesL_snoc {L : List EK} {k : Nat} {e : EK} (h : L[k]? = some e) : namesL (L.take (k + 1)) = namesL (L.take k) ++ nameL e := by
  rw [List.take_add_one, h]
  simp [namesL]
/-- A slice of entries that reads as L. -/
def RdE (w : World) (v : Value) (L : List EK) : Prop :=
  ∃ a cap, v = .slice a L.length cap ∧ (0 < L.length → ∃ b off, a = some ⟨b, off, none⟩ ∧ b < w.heap.size ∧ ∀ k e, L[k]? = some e → w.cell? ⟨b, off + k * 3, none⟩ = some (.string e.1) ∧ w.cell? ⟨b, off + k * 3 + 1, none⟩ = some (.int .i64 e.2.1) ∧ w.cell? ⟨b, off + k * 3 + 2, none⟩ = some (.int .i64 e.2.2))
theorem RdE.below {w w' : World} {v : Value} {L : List EK} (h : RdE w v L) (hb : Below w.heap.size w w') : RdE w' v L := by
  obtain ⟨a, cap, rfl, hc⟩ := h
  refine ⟨a, cap, rfl, fun h0 => ?_⟩
  obtain ⟨b, off, rfl, hlt, hcell⟩ := hc h0
  refine ⟨b, off, rfl, Nat.lt_of_lt_of_le hlt hb.size, fun k e he => ?_⟩
  obtain ⟨h1, h2, h3⟩ := hcell k e he
  exact ⟨(hb.cell (p := ⟨b, off + k * 3, none⟩) hlt).trans h1, (hb.cell (p := ⟨b, off + k * 3 + 1, none⟩) hlt).trans h2, (hb.cell (p := ⟨b, off + k * 3 + 2, none⟩) hlt).trans h3⟩
theorem strOf_tx (l : List UInt8) : strOfNums (txI l) = mk l := by
  apply ByteArray.ext
  simp [strOfNums, mk, txI]
  exact (List.map_congr_left (fun a _ => by simp)).trans (List.map_id l)
theorem conv_rdT {w : World} {v : Value} {l : List UInt8} (h : Rd .u8 w v (txI l)) : (convert 22 9 v).run Tryd.prog w = .ok (.string (mk l)) w := by
  by_cases h0 : 0 < (txI l).length
  · obtain ⟨b, off, cap, rfl, hb, h1, h2, hc⟩ := h.partsC h0
    have h3 := run_convert_bytes_arg (P := Tryd.prog) w 22 5 Tryd.underlying22 Tryd.underlying5 b off (txI l).length cap (txI l) rfl hc 9 Tryd.underlying9
    rw [strOf_tx] at h3
    exact h3
  · have hl : l = [] := List.eq_nil_of_length_eq_zero (by rw [txI_len] at h0; omega)
    subst hl
    obtain ⟨a, cap, rfl, _⟩ := h
    cases a <;> rfl
theorem rd_newT (W : World) (b : Nat) (hb : b = W.heap.size) (zs : List Int) (t : TypeId) (h : zs.length ≤ maxLen) : Rd .i64 (W.alloc (.cells (zs.map (Value.int .i64)).toArray t)) (.slice (some ⟨b, 0, none⟩) zs.length zs.length) zs := by
  subst hb
  refine ⟨some ⟨W.heap.size, 0, none⟩, zs.length, rfl, h, fun _ => ⟨W.heap.size, 0, rfl, by simp, fun i hi => ?_⟩, Nat.le_refl _, h⟩
  rw [Nat.zero_add]
  refine (World.cell?_alloc_new W _ _ _).trans ?_
  simp [hi, List.getD_eq_getElem?_getD]
theorem eqFields_consT {P : Program} (w : World) {d : Nat} {xs ys : Array Value} {f : Field} {fs : List Field} {a b : Value} {r r' : Bool} (hn : f.name ≠ "_") (h1 : (part f.type xs f.offset).run P w = .ok a w) (h2 : (part f.type ys f.offset).run P w = .ok b w)
    (h3 : (Op.equalIn d f.type a b).run P w = .ok r w) (h4 : (Op.eqFields d xs ys fs).run P w = .ok r' w) : (Op.eqFields d xs ys (f :: fs)).run P w = .ok (r && r') w := by
  simp only [Op.eqFields, hn, ne_eq, not_false_eq_true, if_true, Sem.run_bind, h1, h2, h3, Result.andThen_ok]
  cases r
  · simp
  · simpa using h4
theorem part_oneT {P : Program} (w : World) {e : TypeId} {k : IntKind} (he : P.underlying e = some (.int k)) {xs : Array Value} {off : Nat} {v : Value} (hx : xs[off]? = some v) : (part e xs off).run P w = .ok v w := by
  simp [part, isAgg, run_underlying he, hx]
theorem wpList_neqT {P : Program} {ops : Array Oper} {rest : List Oper} {o : Oper} {a : Act} {w : World} {Q : Exit → Act → World → Prop} (hgd : o.guard = none) (t u : TypeId) (x y : Operand) (ho : o.op = .binOp .neq t x y u)
    (cs ds : Array Value) (hx : a.eval x = .agg cs) (hy : a.eval y = .agg ds) (hm : P.eqGuardType P.depth t = false) (b : Bool) (hE : (Op.equalIn 10000 t (.agg cs) (.agg ds)).run P w = .ok b w)
    (h : wpList P ops Q rest (a.put o.dst (.bool (!b))) w) : wpList P ops Q (o :: rest) a w := by
  refine wpList_plain hgd fun K hK => ?_
  have hrun : (execOp a.eval o).run P w = .ok (.value (.bool (!b))) w := by
    simp [execOp, ho, hx, hy, run_eqGuard_agg w _ _ _ _ _ _ hm, run_neq_struct, hE, Result.andThen]
  unfold Oper.wp
  rw [hrun, Oper.upon_value]
  exact hK _ _ h
theorem structS : Tryd.prog.underlying 32 = some (.struct (Tryd.prog.fieldsOf 32)) := by unfold Program.fieldsOf; rw [Tryd.underlying32]
theorem heldS : Tryd.prog.stoodInHeld 32 = false := by kernel_rfl
theorem guardS : Tryd.prog.eqGuardType Tryd.prog.depth 32 = false := by kernel_rfl
set_option maxRecDepth 100000 in
theorem eqZS (w : World) (s0 s1 s2 s3 s4 s5 s6 s7 s8 s9 : Int) : (Op.equalIn 10000 32 (.agg #[.int .i64 s0, .int .i64 s1, .int .i64 s2, .int .i64 s3, .int .i64 s4, .int .i64 s5, .int .i64 s6, .int .i64 s7, .int .i64 s8, .int .i64 s9]) (.agg #[.int .i64 0, .int .i64 0, .int .i64 0, .int .i64 0, .int .i64 0, .int .i64 0, .int .i64 0, .int .i64 0, .int .i64 0, .int .i64 0])).run Tryd.prog w = .ok (allZ [s0, s1, s2, s3, s4, s5, s6, s7, s8, s9]) w := by
  rw [run_equalIn_agg w 9999 _ _ _ structS heldS]
  unfold Program.fieldsOf
  rw [Tryd.underlying32]
  exact eqFields_consT w (by decide) (part_oneT w Tryd.underlying3 (v := .int .i64 s0) rfl) (part_oneT w Tryd.underlying3 (v := .int .i64 0) rfl) (run_equalIn_int w _ _ .i64 .i64 _ _ Tryd.underlying3) (eqFields_consT w (by decide) (part_oneT w Tryd.underlying3 (v := .int .i64 s1) rfl) (part_oneT w Tryd.underlying3 (v := .int .i64 0) rfl) (run_equalIn_int w _ _ .i64 .i64 _ _ Tryd.underlying3) (eqFields_consT w (by decide) (part_oneT w Tryd.underlying3 (v := .int .i64 s2) rfl) (part_oneT w Tryd.underlying3 (v := .int .i64 0) rfl) (run_equalIn_int w _ _ .i64 .i64 _ _ Tryd.underlying3) (eqFields_consT w (by decide) (part_oneT w Tryd.underlying3 (v := .int .i64 s3) rfl) (part_oneT w Tryd.underlying3 (v := .int .i64 0) rfl) (run_equalIn_int w _ _ .i64 .i64 _ _ Tryd.underlying3) (eqFields_consT w (by decide) (part_oneT w Tryd.underlying3 (v := .int .i64 s4) rfl) (part_oneT w Tryd.underlying3 (v := .int .i64 0) rfl) (run_equalIn_int w _ _ .i64 .i64 _ _ Tryd.underlying3) (eqFields_consT w (by decide) (part_oneT w Tryd.underlying3 (v := .int .i64 s5) rfl) (part_oneT w Tryd.underlying3 (v := .int .i64 0) rfl) (run_equalIn_int w _ _ .i64 .i64 _ _ Tryd.underlying3) (eqFields_consT w (by decide) (part_oneT w Tryd.underlying3 (v := .int .i64 s6) rfl) (part_oneT w Tryd.underlying3 (v := .int .i64 0) rfl) (run_equalIn_int w _ _ .i64 .i64 _ _ Tryd.underlying3) (eqFields_consT w (by decide) (part_oneT w Tryd.underlying3 (v := .int .i64 s7) rfl) (part_oneT w Tryd.underlying3 (v := .int .i64 0) rfl) (run_equalIn_int w _ _ .i64 .i64 _ _ Tryd.underlying3) (eqFields_consT w (by decide) (part_oneT w Tryd.underlying3 (v := .int .i64 s8) rfl) (part_oneT w Tryd.underlying3 (v := .int .i64 0) rfl) (run_equalIn_int w _ _ .i64 .i64 _ _ Tryd.underlying3) (eqFields_consT w (by decide) (part_oneT w Tryd.underlying3 (v := .int .i64 s9) rfl) (part_oneT w Tryd.underlying3 (v := .int .i64 0) rfl) (run_equalIn_int w _ _ .i64 .i64 _ _ Tryd.underlying3) (by simp [Op.eqFields]))))))))))
theorem structU : Tryd.prog.underlying 34 = some (.struct (Tryd.prog.fieldsOf 34)) := by unfold Program.fieldsOf; rw [Tryd.underlying34]
theorem heldU : Tryd.prog.stoodInHeld 34 = false := by kernel_rfl
theorem guardU : Tryd.prog.eqGuardType Tryd.prog.depth 34 = false := by kernel_rfl
set_option maxRecDepth 100000 in
theorem eqZU (w : World) (u0 u1 u2 u3 u4 u5 u6 u7 u8 u9 : Int) : (Op.equalIn 10000 34 (.agg #[.int .i64 u0, .int .i64 u1, .int .i64 u2, .int .i64 u3, .int .i64 u4, .int .i64 u5, .int .i64 u6, .int .i64 u7, .int .i64 u8, .int .i64 u9]) (.agg #[.int .i64 0, .int .i64 0, .int .i64 0, .int .i64 0, .int .i64 0, .int .i64 0, .int .i64 0, .int .i64 0, .int .i64 0, .int .i64 0])).run Tryd.prog w = .ok (allZ [u0, u1, u2, u3, u4, u5, u6, u7, u8, u9]) w := by
  rw [run_equalIn_agg w 9999 _ _ _ structU heldU]
  unfold Program.fieldsOf
  rw [Tryd.underlying34]
  exact eqFields_consT w (by decide) (part_oneT w Tryd.underlying3 (v := .int .i64 u0) rfl) (part_oneT w Tryd.underlying3 (v := .int .i64 0) rfl) (run_equalIn_int w _ _ .i64 .i64 _ _ Tryd.underlying3) (eqFields_consT w (by decide) (part_oneT w Tryd.underlying3 (v := .int .i64 u1) rfl) (part_oneT w Tryd.underlying3 (v := .int .i64 0) rfl) (run_equalIn_int w _ _ .i64 .i64 _ _ Tryd.underlying3) (eqFields_consT w (by decide) (part_oneT w Tryd.underlying3 (v := .int .i64 u2) rfl) (part_oneT w Tryd.underlying3 (v := .int .i64 0) rfl) (run_equalIn_int w _ _ .i64 .i64 _ _ Tryd.underlying3) (eqFields_consT w (by decide) (part_oneT w Tryd.underlying3 (v := .int .i64 u3) rfl) (part_oneT w Tryd.underlying3 (v := .int .i64 0) rfl) (run_equalIn_int w _ _ .i64 .i64 _ _ Tryd.underlying3) (eqFields_consT w (by decide) (part_oneT w Tryd.underlying3 (v := .int .i64 u4) rfl) (part_oneT w Tryd.underlying3 (v := .int .i64 0) rfl) (run_equalIn_int w _ _ .i64 .i64 _ _ Tryd.underlying3) (eqFields_consT w (by decide) (part_oneT w Tryd.underlying3 (v := .int .i64 u5) rfl) (part_oneT w Tryd.underlying3 (v := .int .i64 0) rfl) (run_equalIn_int w _ _ .i64 .i64 _ _ Tryd.underlying3) (eqFields_consT w (by decide) (part_oneT w Tryd.underlying3 (v := .int .i64 u6) rfl) (part_oneT w Tryd.underlying3 (v := .int .i64 0) rfl) (run_equalIn_int w _ _ .i64 .i64 _ _ Tryd.underlying3) (eqFields_consT w (by decide) (part_oneT w Tryd.underlying3 (v := .int .i64 u7) rfl) (part_oneT w Tryd.underlying3 (v := .int .i64 0) rfl) (run_equalIn_int w _ _ .i64 .i64 _ _ Tryd.underlying3) (eqFields_consT w (by decide) (part_oneT w Tryd.underlying3 (v := .int .i64 u8) rfl) (part_oneT w Tryd.underlying3 (v := .int .i64 0) rfl) (run_equalIn_int w _ _ .i64 .i64 _ _ Tryd.underlying3) (eqFields_consT w (by decide) (part_oneT w Tryd.underlying3 (v := .int .i64 u9) rfl) (part_oneT w Tryd.underlying3 (v := .int .i64 0) rfl) (run_equalIn_int w _ _ .i64 .i64 _ _ Tryd.underlying3) (by simp [Op.eqFields]))))))))))
set_option maxRecDepth 100000 in
set_option maxHeartbeats 4000000 in
theorem specTA_any (cd nn : Int) (dv : Value) (zs : List UInt8) (s0 s1 s2 s3 s4 s5 s6 s7 s8 s9 : Int) (nv : Value) (L : List EK) (q0 q1 q2 q3 q4 q5 q6 q7 q8 q9 : Int) (w : World) (hd : Rd .u8 w dv (txI zs)) (hn : RdE w nv L) (hcd : In64 cd) (hnn : In64 nn) (hss : ∀ z ∈ [s0, s1, s2, s3, s4, s5, s6, s7, s8, s9], In64 z) (hus : ∀ z ∈ [q0, q1, q2, q3, q4, q5, q6, q7, q8, q9], In64 z) (hL : ∀ e ∈ L, In64 e.2.1 ∧ In64 e.2.2) (hzl : zs.length ≤ 1048576) (hll : L.length ≤ 1048576) (hsk : sizK L ≤ 1048576) :
    Calls Tryd.prog 5 #[.agg #[.int .i64 cd, .int .i64 nn, dv, .int .i64 s0, .int .i64 s1, .int .i64 s2, .int .i64 s3, .int .i64 s4, .int .i64 s5, .int .i64 s6, .int .i64 s7, .int .i64 s8, .int .i64 s9, nv, .int .i64 q0, .int .i64 q1, .int .i64 q2, .int .i64 q3, .int .i64 q4, .int .i64 q5, .int .i64 q6, .int .i64 q7, .int .i64 q8, .int .i64 q9]] w fun e w' => e = .returned (.string (mk (tellL cd nn zs [s0, s1, s2, s3, s4, s5, s6, s7, s8, s9] L [q0, q1, q2, q3, q4, q5, q6, q7, q8, q9]))) ∧ Below w.heap.size w w' := by
  obtain ⟨da, dc, rfl⟩ : ∃ a cap, dv = .slice a zs.length cap := by obtain ⟨a, cap, h1, _⟩ := hd; rw [txI_len] at h1; exact ⟨a, cap, h1⟩
  obtain ⟨na, nc, rfl⟩ : ∃ a cap, nv = .slice a L.length cap := by obtain ⟨a, cap, h1, _⟩ := hn; exact ⟨a, cap, h1⟩
  have KB := hide (Blk.new w #[.int .i64 cd, .int .i64 nn, .slice da zs.length dc, .int .i64 s0, .int .i64 s1, .int .i64 s2, .int .i64 s3, .int .i64 s4, .int .i64 s5, .int .i64 s6, .int .i64 s7, .int .i64 s8, .int .i64 s9, .slice na L.length nc, .int .i64 q0, .int .i64 q1, .int .i64 q2, .int .i64 q3, .int .i64 q4, .int .i64 q5, .int .i64 q6, .int .i64 q7, .int .i64 q8, .int .i64 q9] 36)
  have BW := hide (show Below w.heap.size w (w.alloc (.cells #[.int .i64 cd, .int .i64 nn, .slice da zs.length dc, .int .i64 s0, .int .i64 s1, .int .i64 s2, .int .i64 s3, .int .i64 s4, .int .i64 s5, .int .i64 s6, .int .i64 s7, .int .i64 s8, .int .i64 s9, .slice na L.length nc, .int .i64 q0, .int .i64 q1, .int .i64 q2, .int .i64 q3, .int .i64 q4, .int .i64 q5, .int .i64 q6, .int .i64 q7, .int .i64 q8, .int .i64 q9] 36)) from (Below.refl _ _).alloc (Nat.le_refl _) _)
  go_enter Tryd.func5, Tryd.ntmps5
  go_wp2_with fail
  generalize hW : w.alloc (.cells #[.int .i64 cd, .int .i64 nn, .slice da zs.length dc, .int .i64 s0, .int .i64 s1, .int .i64 s2, .int .i64 s3, .int .i64 s4, .int .i64 s5, .int .i64 s6, .int .i64 s7, .int .i64 s8, .int .i64 s9, .slice na L.length nc, .int .i64 q0, .int .i64 q1, .int .i64 q2, .int .i64 q3, .int .i64 q4, .int .i64 q5, .int .i64 q6, .int .i64 q7, .int .i64 q8, .int .i64 q9] 36) = W at KB BW ⊢
  have hbx : w.heap.size < W.heap.size := KB.out.lt
  have HD := hide (fun (w' : World) (h : Below W.heap.size W w') => (hd.below BW.out).below h)
  have HN := hide (fun (w' : World) (h : Below W.heap.size W w') => (hn.below BW.out).below h)
  clear hW hd hn
  generalize hbxe : w.heap.size = bx at KB hbx ⊢
  have HBX := hide hbxe
  clear hbxe
  have HK := hide (fun (w' : World) (h : Below W.heap.size W w') (j : Nat) => (KB.out.below h hbx).cell j)
  refine wp_region_noPanic ?_
  refine wp_region_held_drew (S := fun w' => Below W.heap.size W w') (by kernel_rfl) ((Below.refl _ _).drew) (fun hH => ?_)
  refine wpAnyH_take (i := 0) (oi := _) (v := .pointer (some ⟨bx, 0, none⟩)) rfl (by kernel_rfl) (by kernel_rfl) (by kernel_rfl) (fun _ _ _ h => h) (Or.inl ⟨by rfl, fun w' hw' => by go_simp⟩) hH ?_
  try simp only [Act.put, List.getElem_toArray, List.getElem_cons_zero, List.getElem_cons_succ, List.setIfInBounds_toArray, List.set_cons_zero, List.set_cons_succ]
  refine wpAnyH_take (i := 1) (oi := _) (v := .int .i64 cd) rfl (by kernel_rfl) (by kernel_rfl) (by kernel_rfl) (fun _ _ _ h => h) (Or.inl ⟨by rfl, fun w' hw' => by have hc : w'.cell? ⟨bx, 0, none⟩ = some (.int .i64 cd) := (HK.out w' hw' 0).trans rfl; clear hw'; go_simp⟩) hH ?_
  try simp only [Act.put, List.getElem_toArray, List.getElem_cons_zero, List.getElem_cons_succ, List.setIfInBounds_toArray, List.set_cons_zero, List.set_cons_succ]
  refine wpAnyH_take (i := 4) (oi := _) (v := .pointer (some ⟨bx, 1, none⟩)) rfl (by kernel_rfl) (by kernel_rfl) (by kernel_rfl) (fun _ _ _ h => h) (Or.inl ⟨by rfl, fun w' hw' => by go_simp⟩) hH ?_
  try simp only [Act.put, List.getElem_toArray, List.getElem_cons_zero, List.getElem_cons_succ, List.setIfInBounds_toArray, List.set_cons_zero, List.set_cons_succ]
  refine wpAnyH_take (i := 5) (oi := _) (v := .int .i64 nn) rfl (by kernel_rfl) (by kernel_rfl) (by kernel_rfl) (fun _ _ _ h => h) (Or.inl ⟨by rfl, fun w' hw' => by have hc : w'.cell? ⟨bx, 1, none⟩ = some (.int .i64 nn) := (HK.out w' hw' 1).trans rfl; clear hw'; go_simp⟩) hH ?_
  try simp only [Act.put, List.getElem_toArray, List.getElem_cons_zero, List.getElem_cons_succ, List.setIfInBounds_toArray, List.set_cons_zero, List.set_cons_succ]
  refine wpAnyH_ready (rs := [2]) (by kernel_rfl) (by simp) ?_
  refine AllReadyH.cons (o := _) rfl (fun K hK => ?_) AllReadyH.nil
  go_simp
  refine (dec_any cd _ hcd.1 hcd.2).mono ?_
  rintro e w1 ⟨rfl, b1⟩
  refine hK.out _ _ (hH.trans (b1.mono hH.size)) (fun hH2 => ?_)
  clear hK K b1
  try simp only [Act.put, List.getElem_toArray, List.getElem_cons_zero, List.getElem_cons_succ, List.setIfInBounds_toArray, List.set_cons_zero, List.set_cons_succ]
  have l1 := Lib.itoa_length_le cd hcd.1 hcd.2
  have l2 := Lib.itoa_length_le nn hnn.1 hnn.2
  have m1 := mk_size (Lib.itoa cd)
  have m2 := mk_size (Lib.itoa nn)
  have e1 : ¬ 9223372036854775807 < (mk (Lib.itoa cd)).size + 1 := by omega
  have e2 : ¬ 9223372036854775807 < (mk (Lib.itoa cd)).size + 1 + (mk (Lib.itoa nn)).size := by omega
  have hx0 : (mk (Lib.itoa cd ++ 32 :: Lib.itoa nn)).size ≤ 100 := by rw [mk_size]; simp; omega
  clear m1 m2 l1 l2
  refine wpAnyH_take (i := 3) (oi := _) (v := .string (mk (Lib.itoa cd) ++ ⟨#[32]⟩)) rfl (by kernel_rfl) (by kernel_rfl) (by kernel_rfl) (fun _ _ _ h => h) (Or.inl ⟨by rfl, fun w' hw' => by go_simp⟩) hH2 ?_
  try simp only [Act.put, List.getElem_toArray, List.getElem_cons_zero, List.getElem_cons_succ, List.setIfInBounds_toArray, List.set_cons_zero, List.set_cons_succ]
  refine wpAnyH_ready (rs := [6]) (by kernel_rfl) (by simp) ?_
  refine AllReadyH.cons (o := _) rfl (fun K hK => ?_) AllReadyH.nil
  go_simp
  refine (dec_any nn _ hnn.1 hnn.2).mono ?_
  rintro e w2 ⟨rfl, b1⟩
  refine hK.out _ _ (hH2.trans (b1.mono hH2.size)) (fun hH3 => ?_)
  clear hK K b1
  try simp only [Act.put, List.getElem_toArray, List.getElem_cons_zero, List.getElem_cons_succ, List.setIfInBounds_toArray, List.set_cons_zero, List.set_cons_succ]
  refine wpAnyH_take (i := 7) (oi := _) (v := .string (mk (Lib.itoa cd) ++ ⟨#[32]⟩ ++ mk (Lib.itoa nn))) rfl (by kernel_rfl) (by kernel_rfl) (by kernel_rfl) (fun _ _ _ h => h) (Or.inl ⟨by rfl, fun w' hw' => by go_simp⟩) hH3 ?_
  try simp only [Act.put, List.getElem_toArray, List.getElem_cons_zero, List.getElem_cons_succ, List.setIfInBounds_toArray, List.set_cons_zero, List.set_cons_succ]
  refine wpAnyH_take (i := 8) (oi := _) (v := .string (mk (Lib.itoa cd) ++ ⟨#[32]⟩ ++ mk (Lib.itoa nn))) rfl (by kernel_rfl) (by kernel_rfl) (by kernel_rfl) (fun _ _ _ h => h) (Or.inl ⟨by rfl, fun w' hw' => by go_simp⟩) hH3 ?_
  try simp only [Act.put, List.getElem_toArray, List.getElem_cons_zero, List.getElem_cons_succ, List.setIfInBounds_toArray, List.set_cons_zero, List.set_cons_succ]
  refine wpAnyH_done (by kernel_rfl) (NoPanic.normal ?_) _
  have HX1 := hide (show mk (Lib.itoa cd) ++ ⟨#[32]⟩ ++ mk (Lib.itoa nn) = mk (Lib.itoa cd ++ 32 :: Lib.itoa nn) from by rw [show (⟨#[32]⟩ : ByteArray) = mk [32] from rfl, mk_cat, mk_cat]; simp)
  generalize mk (Lib.itoa cd) ++ ⟨#[32]⟩ ++ mk (Lib.itoa nn) = x1 at HX1 ⊢
  have HB2 := hide hH3
  have hx1 : x1.size ≤ 100 := by rw [HX1.out]; exact hx0
  clear hH hH2 hH3 e1 e2 hx0
  have c2 : w2.cell? ⟨bx, 2, none⟩ = some (.slice da zs.length dc) := (HK.out w2 HB2.out 2).trans rfl
  have hcv := conv_rdT (HD.out w2 HB2.out)
  go_upto_if 19 with fail
  go_cut [3] from 16 to 26 (fun t wx => ∃ x : ByteArray, t = .string x ∧ Hid (x = mk ((Lib.itoa cd ++ 32 :: Lib.itoa nn) ++ (if 0 < zs.length then 32 :: 61 :: wordL zs else [])) ∧ x.size ≤ 3145900 ∧ Below W.heap.size W wx))
  case first =>
    by_cases hz : 0 < zs.length
    · have hz2 : (0 : Int) < (zs.length : Int) := by omega
      have lw := word_len zs
      have ew : ¬ 9223372036854775807 < 2 + (mk (wordL zs)).size := by rw [mk_size]; omega
      have ew2 : ¬ 9223372036854775807 < x1.size + (2 + (mk (wordL zs)).size) := by rw [mk_size]; omega
      have HXX := hide (show x1 ++ (⟨#[32, 61]⟩ ++ mk (wordL zs)) = mk ((Lib.itoa cd ++ 32 :: Lib.itoa nn) ++ (if 0 < zs.length then 32 :: 61 :: wordL zs else [])) from by rw [HX1.out, if_pos hz, show (⟨#[32, 61]⟩ : ByteArray) = mk [32, 61] from rfl, mk_cat, mk_cat]; simp)
      have HXS := hide (show (x1 ++ (⟨#[32, 61]⟩ ++ mk (wordL zs))).size ≤ 3145900 from by rw [ByteArray.size_append, ByteArray.size_append, mk_size]; show _ + (2 + _) ≤ _; omega)
      clear lw
      go_wp2_with (go_at_call 12; refine (word_any (mk zs) _ (by rw [mk_size]; exact hzl)).mono ?_; rw [mk_toList]; rintro e w3 ⟨rfl, b3⟩; have HB3 := hide (HB2.out.trans (b3.mono HB2.out.size)); clear b3)
      go_meet
      exact ⟨_, rfl, HXX.out, HXS.out, HB3.out⟩
    · have hz2 : ¬ (0 : Int) < (zs.length : Int) := by omega
      clear hcv
      go_wp2_with fail
      go_meet
      exact ⟨_, rfl, by rw [HX1.out, if_neg hz, List.append_nil], by omega, HB2.out⟩
  case rest =>
  obtain ⟨x2, rfl, HX2⟩ := hcut
  generalize hl2 : (Lib.itoa cd ++ 32 :: Lib.itoa nn) ++ (if 0 < zs.length then 32 :: 61 :: wordL zs else []) = l2 at HX2
  have HL2 := hide hl2
  clear hl2
  have c3 : wc.cell? ⟨bx, 3, none⟩ = some (.int .i64 s0) := (HK.out wc HX2.out.2.2 3).trans rfl
  have c4 : wc.cell? ⟨bx, 4, none⟩ = some (.int .i64 s1) := (HK.out wc HX2.out.2.2 4).trans rfl
  have c5 : wc.cell? ⟨bx, 5, none⟩ = some (.int .i64 s2) := (HK.out wc HX2.out.2.2 5).trans rfl
  have c6 : wc.cell? ⟨bx, 6, none⟩ = some (.int .i64 s3) := (HK.out wc HX2.out.2.2 6).trans rfl
  have c7 : wc.cell? ⟨bx, 7, none⟩ = some (.int .i64 s4) := (HK.out wc HX2.out.2.2 7).trans rfl
  have c8 : wc.cell? ⟨bx, 8, none⟩ = some (.int .i64 s5) := (HK.out wc HX2.out.2.2 8).trans rfl
  have c9 : wc.cell? ⟨bx, 9, none⟩ = some (.int .i64 s6) := (HK.out wc HX2.out.2.2 9).trans rfl
  have c10 : wc.cell? ⟨bx, 10, none⟩ = some (.int .i64 s7) := (HK.out wc HX2.out.2.2 10).trans rfl
  have c11 : wc.cell? ⟨bx, 11, none⟩ = some (.int .i64 s8) := (HK.out wc HX2.out.2.2 11).trans rfl
  have c12 : wc.cell? ⟨bx, 12, none⟩ = some (.int .i64 s9) := (HK.out wc HX2.out.2.2 12).trans rfl
  go_upto_if 30 with (refine wpList_neqT rfl 32 _ _ _ rfl #[.int .i64 s0, .int .i64 s1, .int .i64 s2, .int .i64 s3, .int .i64 s4, .int .i64 s5, .int .i64 s6, .int .i64 s7, .int .i64 s8, .int .i64 s9] #[.int .i64 0, .int .i64 0, .int .i64 0, .int .i64 0, .int .i64 0, .int .i64 0, .int .i64 0, .int .i64 0, .int .i64 0, .int .i64 0] rfl rfl guardS (allZ [s0, s1, s2, s3, s4, s5, s6, s7, s8, s9]) (eqZS _ s0 s1 s2 s3 s4 s5 s6 s7 s8 s9) ?_)
  try simp only [Act.put, List.getElem_toArray, List.getElem_cons_zero, List.getElem_cons_succ, List.setIfInBounds_toArray, List.set_cons_zero, List.set_cons_succ]
  go_cut [3] from 4 to 57 (fun t wx => ∃ x : ByteArray, t = .string x ∧ Hid (x = mk (l2 ++ (if allZ [s0, s1, s2, s3, s4, s5, s6, s7, s8, s9] then [] else 32 :: 115 :: 116 :: 97 :: 116 :: 58 :: joinL 58 [s0, s1, s2, s3, s4, s5, s6, s7, s8, s9])) ∧ x.size ≤ 3146900 ∧ Below W.heap.size W wx))
  case first =>
    generalize hbz : allZ [s0, s1, s2, s3, s4, s5, s6, s7, s8, s9] = bz
    cases bz with
    | true =>
      go_wp2_with fail
      go_meet
      exact ⟨_, rfl, by rw [if_pos hbz, List.append_nil]; exact HX2.out.1, by have := HX2.out.2.1; omega, HX2.out.2.2⟩
    | false =>
      have lj := join_bound (m := 58) (zs := [s0, s1, s2, s3, s4, s5, s6, s7, s8, s9]) hss
      have ej : ¬ 9223372036854775807 < 6 + (mk (joinL 58 [s0, s1, s2, s3, s4, s5, s6, s7, s8, s9])).size := by rw [mk_size]; simp at lj; omega
      have ej2 : ¬ 9223372036854775807 < x2.size + (6 + (mk (joinL 58 [s0, s1, s2, s3, s4, s5, s6, s7, s8, s9])).size) := by have := HX2.out.2.1; rw [mk_size]; simp at lj; omega
      have HJ := hide (show x2 ++ (⟨#[32, 115, 116, 97, 116, 58]⟩ ++ mk (joinL 58 [s0, s1, s2, s3, s4, s5, s6, s7, s8, s9])) = mk (l2 ++ (if allZ [s0, s1, s2, s3, s4, s5, s6, s7, s8, s9] then [] else 32 :: 115 :: 116 :: 97 :: 116 :: 58 :: joinL 58 [s0, s1, s2, s3, s4, s5, s6, s7, s8, s9])) from by rw [HX2.out.1, if_neg (by rw [hbz]; decide), show (⟨#[32, 115, 116, 97, 116, 58]⟩ : ByteArray) = mk [32, 115, 116, 97, 116, 58] from rfl, mk_cat, mk_cat]; simp)
      have HJS := hide (show (x2 ++ (⟨#[32, 115, 116, 97, 116, 58]⟩ ++ mk (joinL 58 [s0, s1, s2, s3, s4, s5, s6, s7, s8, s9]))).size ≤ 3146900 from by have := HX2.out.2.1; rw [ByteArray.size_append, ByteArray.size_append, mk_size]; show _ + (6 + _) ≤ _; simp at lj; omega)
      clear lj
      have BS := hide (show Below W.heap.size W ((wc.alloc (.cells #[.int .i64 s0, .int .i64 s1, .int .i64 s2, .int .i64 s3, .int .i64 s4, .int .i64 s5, .int .i64 s6, .int .i64 s7, .int .i64 s8, .int .i64 s9] 32)).alloc (.cells #[.int .i64 s0, .int .i64 s1, .int .i64 s2, .int .i64 s3, .int .i64 s4, .int .i64 s5, .int .i64 s6, .int .i64 s7, .int .i64 s8, .int .i64 s9] 3)) from (HX2.out.2.2.alloc HX2.out.2.2.size _).alloc (by have := HX2.out.2.2.size; simp; omega) _)
      go_wp2_with (go_at_call 13; refine (join_any _ [s0, s1, s2, s3, s4, s5, s6, s7, s8, s9] _ (rd_newT (wc.alloc _) _ (by simp) [s0, s1, s2, s3, s4, s5, s6, s7, s8, s9] _ (by unfold maxLen; simp)) (by simp) hss).mono ?_; rintro e w3 ⟨rfl, b3⟩; have HB3 := hide (BS.out.trans (b3.mono BS.out.size)); clear b3)
      go_meet
      exact ⟨_, rfl, HJ.out, HJS.out, HB3.out⟩
  case rest =>
  obtain ⟨x3, rfl, HX3⟩ := hcut
  clear c3 c4 c5 c6 c7 c8 c9 c10 c11 c12
  generalize hl3 : (l2 ++ (if allZ [s0, s1, s2, s3, s4, s5, s6, s7, s8, s9] then [] else 32 :: 115 :: 116 :: 97 :: 116 :: 58 :: joinL 58 [s0, s1, s2, s3, s4, s5, s6, s7, s8, s9])) = l3 at HX3
  have HL3 := hide hl3
  clear hl3
  have c13 : wc.cell? ⟨bx, 13, none⟩ = some (.slice na L.length nc) := (HK.out wc HX3.out.2.2 13).trans rfl
  go_wp2_with fail
  clear c13
  go_loopw [3, 61] (fun t i wr => ∃ (k : Nat) (x : ByteArray), k ≤ L.length ∧ i = .int .i64 (k : Int) ∧ t = .string x ∧ Hid (x = mk (l3 ++ namesL (L.take k)) ∧ Below W.heap.size W wr)) (fun _ i _ => L.length - (intOf i).toNat)
  case atStart => exact ⟨0, x3, Nat.zero_le _, rfl, rfl, ⟨by rw [HX3.out.1]; simp [namesL], HX3.out.2.2⟩⟩
  case round =>
    obtain ⟨k, x, hk, rfl, rfl, HX⟩ := hrel
    have hxs : x.size ≤ 60000000 := by
      have h0 := HX3.out.2.1
      rw [HX3.out.1, mk_size] at h0
      rw [HX.out.1, mk_size, List.length_append]
      have h1 := namesL_len (L.take k) (fun e he => hL e (List.mem_of_mem_take he))
      have h2 := sizK_take L k
      have h3 : (L.take k).length ≤ L.length := List.length_take_le' _ _
      omega
    by_cases hlt : k < L.length
    · obtain ⟨e, he⟩ : ∃ x, L[k]? = some x := ⟨_, List.getElem?_eq_getElem hlt⟩
      obtain ⟨a', cap', ee, hrd⟩ := HN.out wr HX.out.2
      injection ee with ee1 _ ee3
      obtain ⟨bn, off, en, hbn, hcells⟩ := hrd (by omega)
      subst ee3
      rw [en] at ee1
      subst ee1
      obtain ⟨d0, d1, d2⟩ := hcells k e he
      have HE := hide he
      have h64 := hL e (List.mem_of_getElem? he)
      have hes := sizK_at he
      obtain ⟨nm, ino, kd⟩ := e
      simp only at d0 d1 d2 h64 hes
      clear hcells hrd he en
      go_wp2_with fail
      have KE := hide (Blk.new wr #[.string nm, .int .i64 ino, .int .i64 kd] 47)
      have BE := hide (show Below W.heap.size W (wr.alloc (.cells #[.string nm, .int .i64 ino, .int .i64 kd] 47)) from HX.out.2.alloc HX.out.2.size _)
      generalize hW3 : wr.alloc (.cells #[.string nm, .int .i64 ino, .int .i64 kd] 47) = W3 at KE BE ⊢
      have hbd : wr.heap.size < W3.heap.size := KE.out.lt
      clear hW3 d0 d1 d2
      generalize hbde : wr.heap.size = bd at KE hbd ⊢
      clear hbde
      have HKE := hide (fun (w' : World) (h : Below W3.heap.size W3 w') (j : Nat) => (KE.out.below h hbd).cell j)
      have lw := word_len nm.data.toList
      have hnl : nm.data.toList.length = nm.size := rfl
      have hj2 : ∀ z ∈ [ino, kd], -9223372036854775808 ≤ z ∧ z ≤ 9223372036854775807 := fun z hz => by
        simp at hz
        rcases hz with rfl | rfl
        · exact h64.1
        · exact h64.2
      have lj := join_bound (m := 58) (zs := [ino, kd]) hj2
      have e1 : ¬ 9223372036854775807 < 1 + (mk (wordL nm.data.toList)).size := by rw [mk_size]; omega
      have e2 : ¬ 9223372036854775807 < 1 + (mk (wordL nm.data.toList)).size + 1 := by rw [mk_size]; omega
      have e3 : ¬ 9223372036854775807 < 1 + (mk (wordL nm.data.toList)).size + 1 + (mk (joinL 58 [ino, kd])).size := by rw [mk_size, mk_size]; simp at lj; omega
      have e4 : ¬ 9223372036854775807 < x.size + (1 + (mk (wordL nm.data.toList)).size + 1 + (mk (joinL 58 [ino, kd])).size) := by rw [mk_size, mk_size]; simp at lj; omega
      have HV := hide (show x ++ (⟨#[32]⟩ ++ mk (wordL nm.data.toList) ++ ⟨#[58]⟩ ++ mk (joinL 58 [ino, kd])) = mk (l3 ++ namesL (L.take (k + 1))) from by
        rw [namesL_snoc HE.out, HX.out.1, show (⟨#[32]⟩ : ByteArray) = mk [32] from rfl, show (⟨#[58]⟩ : ByteArray) = mk [58] from rfl, mk_cat, mk_cat, mk_cat, mk_cat]
        simp [nameL])
      clear lw lj hnl
      refine wp_region_noPanic ?_
      refine wp_region_held_drew (S := fun w' => Below W3.heap.size W3 w') (by kernel_rfl) ((Below.refl _ _).drew) (fun hH => ?_)
      refine wpAnyH_take (i := 0) (oi := _) (v := .string x) rfl (by kernel_rfl) (by kernel_rfl) (by kernel_rfl) (fun _ _ _ h => h) (Or.inl ⟨by rfl, fun w' hw' => by go_simp⟩) hH ?_
      try simp only [Act.put, List.getElem_toArray, List.getElem_cons_zero, List.getElem_cons_succ, List.setIfInBounds_toArray, List.set_cons_zero, List.set_cons_succ]
      refine wpAnyH_take (i := 1) (oi := _) (v := .pointer (some ⟨bd, 0, none⟩)) rfl (by kernel_rfl) (by kernel_rfl) (by kernel_rfl) (fun _ _ _ h => h) (Or.inl ⟨by rfl, fun w' hw' => by go_simp⟩) hH ?_
      try simp only [Act.put, List.getElem_toArray, List.getElem_cons_zero, List.getElem_cons_succ, List.setIfInBounds_toArray, List.set_cons_zero, List.set_cons_succ]
      refine wpAnyH_take (i := 2) (oi := _) (v := .string nm) rfl (by kernel_rfl) (by kernel_rfl) (by kernel_rfl) (fun _ _ _ h => h) (Or.inl ⟨by rfl, fun w' hw' => by have hc : w'.cell? ⟨bd, 0, none⟩ = some (.string nm) := (HKE.out w' hw' 0).trans rfl; clear hw'; go_simp⟩) hH ?_
      try simp only [Act.put, List.getElem_toArray, List.getElem_cons_zero, List.getElem_cons_succ, List.setIfInBounds_toArray, List.set_cons_zero, List.set_cons_succ]
      refine wpAnyH_take (i := 6) (oi := _) (v := .pointer (some ⟨bd, 1, none⟩)) rfl (by kernel_rfl) (by kernel_rfl) (by kernel_rfl) (fun _ _ _ h => h) (Or.inl ⟨by rfl, fun w' hw' => by go_simp⟩) hH ?_
      try simp only [Act.put, List.getElem_toArray, List.getElem_cons_zero, List.getElem_cons_succ, List.setIfInBounds_toArray, List.set_cons_zero, List.set_cons_succ]
      refine wpAnyH_take (i := 7) (oi := _) (v := .int .i64 ino) rfl (by kernel_rfl) (by kernel_rfl) (by kernel_rfl) (fun _ _ _ h => h) (Or.inl ⟨by rfl, fun w' hw' => by have hc : w'.cell? ⟨bd, 1, none⟩ = some (.int .i64 ino) := (HKE.out w' hw' 1).trans rfl; clear hw'; go_simp⟩) hH ?_
      try simp only [Act.put, List.getElem_toArray, List.getElem_cons_zero, List.getElem_cons_succ, List.setIfInBounds_toArray, List.set_cons_zero, List.set_cons_succ]
      refine wpAnyH_take (i := 8) (oi := _) (v := .pointer (some ⟨bd, 2, none⟩)) rfl (by kernel_rfl) (by kernel_rfl) (by kernel_rfl) (fun _ _ _ h => h) (Or.inl ⟨by rfl, fun w' hw' => by go_simp⟩) hH ?_
      try simp only [Act.put, List.getElem_toArray, List.getElem_cons_zero, List.getElem_cons_succ, List.setIfInBounds_toArray, List.set_cons_zero, List.set_cons_succ]
      refine wpAnyH_take (i := 9) (oi := _) (v := .int .i64 kd) rfl (by kernel_rfl) (by kernel_rfl) (by kernel_rfl) (fun _ _ _ h => h) (Or.inl ⟨by rfl, fun w' hw' => by have hc : w'.cell? ⟨bd, 2, none⟩ = some (.int .i64 kd) := (HKE.out w' hw' 2).trans rfl; clear hw'; go_simp⟩) hH ?_
      try simp only [Act.put, List.getElem_toArray, List.getElem_cons_zero, List.getElem_cons_succ, List.setIfInBounds_toArray, List.set_cons_zero, List.set_cons_succ]
      refine wpAnyH_ready (rs := [3, 10]) (by kernel_rfl) (by simp) ?_
      refine AllReadyH.cons (o := _) rfl (fun K hK => ?_) (AllReadyH.cons (o := _) rfl (fun K hK => ?_) AllReadyH.nil)
      · skip
        go_simp
        refine (word_any nm _ (by omega)).mono ?_
        rintro e w4 ⟨rfl, b4⟩
        refine hK.out _ _ (hH.trans (b4.mono hH.size)) (fun h4 => ?_)
        clear hK K b4
        try simp only [Act.put, List.getElem_toArray, List.getElem_cons_zero, List.getElem_cons_succ, List.setIfInBounds_toArray, List.set_cons_zero, List.set_cons_succ]
        refine wpAnyH_take (i := 4) (oi := _) (v := .string (⟨#[32]⟩ ++ mk (wordL nm.data.toList))) rfl (by kernel_rfl) (by kernel_rfl) (by kernel_rfl) (fun _ _ _ h => h) (Or.inl ⟨by rfl, fun w' hw' => by go_simp⟩) h4 ?_
        try simp only [Act.put, List.getElem_toArray, List.getElem_cons_zero, List.getElem_cons_succ, List.setIfInBounds_toArray, List.set_cons_zero, List.set_cons_succ]
        refine wpAnyH_take (i := 5) (oi := _) (v := .string (⟨#[32]⟩ ++ mk (wordL nm.data.toList) ++ ⟨#[58]⟩)) rfl (by kernel_rfl) (by kernel_rfl) (by kernel_rfl) (fun _ _ _ h => h) (Or.inl ⟨by rfl, fun w' hw' => by go_simp⟩) h4 ?_
        try simp only [Act.put, List.getElem_toArray, List.getElem_cons_zero, List.getElem_cons_succ, List.setIfInBounds_toArray, List.set_cons_zero, List.set_cons_succ]
        refine wpAnyH_ready (rs := [10]) (by kernel_rfl) (by simp) ?_
        refine AllReadyH.cons (o := _) rfl (fun K hK => ?_) AllReadyH.nil
        go_simp
        refine hK.out _ _ (h4.alloc h4.size _) (fun h5 => ?_)
        clear hK K
        try simp only [Act.put, List.getElem_toArray, List.getElem_cons_zero, List.getElem_cons_succ, List.setIfInBounds_toArray, List.set_cons_zero, List.set_cons_succ]
        refine wpAnyH_ready (rs := [11]) (by kernel_rfl) (by simp) ?_
        refine AllReadyH.cons (o := _) rfl (fun K hK => ?_) AllReadyH.nil
        go_simp
        refine (join_any _ [ino, kd] _ (rd_newT w4 _ rfl [ino, kd] _ (by unfold maxLen; simp)) (by simp) hj2).mono ?_
        rintro e w6 ⟨rfl, b6⟩
        refine hK.out _ _ (h5.trans (b6.mono h5.size)) (fun hF => ?_)
        clear hK K b6 h5 h4 hH
        try simp only [Act.put, List.getElem_toArray, List.getElem_cons_zero, List.getElem_cons_succ, List.setIfInBounds_toArray, List.set_cons_zero, List.set_cons_succ]
        refine wpAnyH_take (i := 12) (oi := _) (v := .string (⟨#[32]⟩ ++ mk (wordL nm.data.toList) ++ ⟨#[58]⟩ ++ mk (joinL 58 [ino, kd]))) rfl (by kernel_rfl) (by kernel_rfl) (by kernel_rfl) (fun _ _ _ h => h) (Or.inl ⟨by rfl, fun w' hw' => by go_simp⟩) hF ?_
        try simp only [Act.put, List.getElem_toArray, List.getElem_cons_zero, List.getElem_cons_succ, List.setIfInBounds_toArray, List.set_cons_zero, List.set_cons_succ]
        refine wpAnyH_take (i := 13) (oi := _) (v := .string (x ++ (⟨#[32]⟩ ++ mk (wordL nm.data.toList) ++ ⟨#[58]⟩ ++ mk (joinL 58 [ino, kd])))) rfl (by kernel_rfl) (by kernel_rfl) (by kernel_rfl) (fun _ _ _ h => h) (Or.inl ⟨by rfl, fun w' hw' => by go_simp⟩) hF ?_
        try simp only [Act.put, List.getElem_toArray, List.getElem_cons_zero, List.getElem_cons_succ, List.setIfInBounds_toArray, List.set_cons_zero, List.set_cons_succ]
        refine wpAnyH_take (i := 14) (oi := _) (v := .string (x ++ (⟨#[32]⟩ ++ mk (wordL nm.data.toList) ++ ⟨#[58]⟩ ++ mk (joinL 58 [ino, kd])))) rfl (by kernel_rfl) (by kernel_rfl) (by kernel_rfl) (fun _ _ _ h => h) (Or.inl ⟨by rfl, fun w' hw' => by go_simp⟩) hF ?_
        try simp only [Act.put, List.getElem_toArray, List.getElem_cons_zero, List.getElem_cons_succ, List.setIfInBounds_toArray, List.set_cons_zero, List.set_cons_succ]
        refine wpAnyH_done (by kernel_rfl) (NoPanic.normal ?_) _
        have HB9 := hide (BE.out.trans (hF.mono BE.out.size))
        clear hF
        go_wp2
        go_roundw
        case rel => exact ⟨k + 1, _, by omega, by go_num, rfl, ⟨HV.out, HB9.out⟩⟩
        case measure => simp [intOf]; omega
      · go_simp
        refine hK.out _ _ (hH.alloc hH.size _) (fun h4 => ?_)
        clear hK K
        try simp only [Act.put, List.getElem_toArray, List.getElem_cons_zero, List.getElem_cons_succ, List.setIfInBounds_toArray, List.set_cons_zero, List.set_cons_succ]
        have RN := hide (rd_newT (World.drew W3) W3.heap.size rfl [ino, kd] 3 (by unfold maxLen; simp))
        refine wpAnyH_ready (rs := [3]) (by kernel_rfl) (by simp) ?_
        refine AllReadyH.cons (o := _) rfl (fun K hK => ?_) AllReadyH.nil
        go_simp
        refine (word_any nm _ (by omega)).mono ?_
        rintro e w4 ⟨rfl, b4⟩
        have RN4 := hide (RN.out.below b4)
        refine hK.out _ _ (h4.trans (b4.mono h4.size)) (fun h5 => ?_)
        clear hK K b4 RN
        try simp only [Act.put, List.getElem_toArray, List.getElem_cons_zero, List.getElem_cons_succ, List.setIfInBounds_toArray, List.set_cons_zero, List.set_cons_succ]
        refine wpAnyH_take (i := 4) (oi := _) (v := .string (⟨#[32]⟩ ++ mk (wordL nm.data.toList))) rfl (by kernel_rfl) (by kernel_rfl) (by kernel_rfl) (fun _ _ _ h => h) (Or.inl ⟨by rfl, fun w' hw' => by go_simp⟩) h5 ?_
        try simp only [Act.put, List.getElem_toArray, List.getElem_cons_zero, List.getElem_cons_succ, List.setIfInBounds_toArray, List.set_cons_zero, List.set_cons_succ]
        refine wpAnyH_take (i := 5) (oi := _) (v := .string (⟨#[32]⟩ ++ mk (wordL nm.data.toList) ++ ⟨#[58]⟩)) rfl (by kernel_rfl) (by kernel_rfl) (by kernel_rfl) (fun _ _ _ h => h) (Or.inl ⟨by rfl, fun w' hw' => by go_simp⟩) h5 ?_
        try simp only [Act.put, List.getElem_toArray, List.getElem_cons_zero, List.getElem_cons_succ, List.setIfInBounds_toArray, List.set_cons_zero, List.set_cons_succ]
        refine wpAnyH_ready (rs := [11]) (by kernel_rfl) (by simp) ?_
        refine AllReadyH.cons (o := _) rfl (fun K hK => ?_) AllReadyH.nil
        go_simp
        refine (join_any _ [ino, kd] _ RN4.out (by simp) hj2).mono ?_
        rintro e w6 ⟨rfl, b6⟩
        refine hK.out _ _ (h5.trans (b6.mono h5.size)) (fun hF => ?_)
        clear hK K b6 h5 h4 hH RN4
        try simp only [Act.put, List.getElem_toArray, List.getElem_cons_zero, List.getElem_cons_succ, List.setIfInBounds_toArray, List.set_cons_zero, List.set_cons_succ]
        refine wpAnyH_take (i := 12) (oi := _) (v := .string (⟨#[32]⟩ ++ mk (wordL nm.data.toList) ++ ⟨#[58]⟩ ++ mk (joinL 58 [ino, kd]))) rfl (by kernel_rfl) (by kernel_rfl) (by kernel_rfl) (fun _ _ _ h => h) (Or.inl ⟨by rfl, fun w' hw' => by go_simp⟩) hF ?_
        try simp only [Act.put, List.getElem_toArray, List.getElem_cons_zero, List.getElem_cons_succ, List.setIfInBounds_toArray, List.set_cons_zero, List.set_cons_succ]
        refine wpAnyH_take (i := 13) (oi := _) (v := .string (x ++ (⟨#[32]⟩ ++ mk (wordL nm.data.toList) ++ ⟨#[58]⟩ ++ mk (joinL 58 [ino, kd])))) rfl (by kernel_rfl) (by kernel_rfl) (by kernel_rfl) (fun _ _ _ h => h) (Or.inl ⟨by rfl, fun w' hw' => by go_simp⟩) hF ?_
        try simp only [Act.put, List.getElem_toArray, List.getElem_cons_zero, List.getElem_cons_succ, List.setIfInBounds_toArray, List.set_cons_zero, List.set_cons_succ]
        refine wpAnyH_take (i := 14) (oi := _) (v := .string (x ++ (⟨#[32]⟩ ++ mk (wordL nm.data.toList) ++ ⟨#[58]⟩ ++ mk (joinL 58 [ino, kd])))) rfl (by kernel_rfl) (by kernel_rfl) (by kernel_rfl) (fun _ _ _ h => h) (Or.inl ⟨by rfl, fun w' hw' => by go_simp⟩) hF ?_
        try simp only [Act.put, List.getElem_toArray, List.getElem_cons_zero, List.getElem_cons_succ, List.setIfInBounds_toArray, List.set_cons_zero, List.set_cons_succ]
        refine wpAnyH_done (by kernel_rfl) (NoPanic.normal ?_) _
        have HB9 := hide (BE.out.trans (hF.mono BE.out.size))
        clear hF
        go_wp2
        go_roundw
        case rel => exact ⟨k + 1, _, by omega, by go_num, rfl, ⟨HV.out, HB9.out⟩⟩
        case measure => simp [intOf]; omega
    · have HXE := hide (show x = mk (l3 ++ namesL L) from by rw [HX.out.1, List.take_of_length_le (by omega)])
      have c14 : wr.cell? ⟨bx, 14, none⟩ = some (.int .i64 q0) := (HK.out wr HX.out.2 14).trans rfl
      have c15 : wr.cell? ⟨bx, 15, none⟩ = some (.int .i64 q1) := (HK.out wr HX.out.2 15).trans rfl
      have c16 : wr.cell? ⟨bx, 16, none⟩ = some (.int .i64 q2) := (HK.out wr HX.out.2 16).trans rfl
      have c17 : wr.cell? ⟨bx, 17, none⟩ = some (.int .i64 q3) := (HK.out wr HX.out.2 17).trans rfl
      have c18 : wr.cell? ⟨bx, 18, none⟩ = some (.int .i64 q4) := (HK.out wr HX.out.2 18).trans rfl
      have c19 : wr.cell? ⟨bx, 19, none⟩ = some (.int .i64 q5) := (HK.out wr HX.out.2 19).trans rfl
      have c20 : wr.cell? ⟨bx, 20, none⟩ = some (.int .i64 q6) := (HK.out wr HX.out.2 20).trans rfl
      have c21 : wr.cell? ⟨bx, 21, none⟩ = some (.int .i64 q7) := (HK.out wr HX.out.2 21).trans rfl
      have c22 : wr.cell? ⟨bx, 22, none⟩ = some (.int .i64 q8) := (HK.out wr HX.out.2 22).trans rfl
      have c23 : wr.cell? ⟨bx, 23, none⟩ = some (.int .i64 q9) := (HK.out wr HX.out.2 23).trans rfl
      have tellE : tellL cd nn zs [s0, s1, s2, s3, s4, s5, s6, s7, s8, s9] L [q0, q1, q2, q3, q4, q5, q6, q7, q8, q9] = (l3 ++ namesL L) ++ (if allZ [q0, q1, q2, q3, q4, q5, q6, q7, q8, q9] then [] else 32 :: 117 :: 115 :: 97 :: 103 :: 101 :: 58 :: joinL 58 [q0, q1, q2, q3, q4, q5, q6, q7, q8, q9]) := by rw [← HL3.out, ← HL2.out]; rfl
      have TE := hide tellE
      clear tellE
      go_upto_if 83 with (refine wpList_neqT rfl 34 _ _ _ rfl #[.int .i64 q0, .int .i64 q1, .int .i64 q2, .int .i64 q3, .int .i64 q4, .int .i64 q5, .int .i64 q6, .int .i64 q7, .int .i64 q8, .int .i64 q9] #[.int .i64 0, .int .i64 0, .int .i64 0, .int .i64 0, .int .i64 0, .int .i64 0, .int .i64 0, .int .i64 0, .int .i64 0, .int .i64 0] rfl rfl guardU (allZ [q0, q1, q2, q3, q4, q5, q6, q7, q8, q9]) (eqZU _ q0 q1 q2 q3 q4 q5 q6 q7 q8 q9) ?_)
      try simp only [Act.put, List.getElem_toArray, List.getElem_cons_zero, List.getElem_cons_succ, List.setIfInBounds_toArray, List.set_cons_zero, List.set_cons_succ]
      generalize hbu : allZ [q0, q1, q2, q3, q4, q5, q6, q7, q8, q9] = bu
      cases bu with
      | true =>
        go_wp2_with fail
        go_ret
        refine ⟨ret_val ?_, BW.out.trans (HX.out.2.mono BW.out.size)⟩
        have ht : tellL cd nn zs [s0, s1, s2, s3, s4, s5, s6, s7, s8, s9] L [q0, q1, q2, q3, q4, q5, q6, q7, q8, q9] = l3 ++ namesL L := by rw [TE.out, hbu, if_pos rfl, List.append_nil]
        rw [ht, ← HXE.out]
        rfl
      | false =>
        have lj := join_bound (m := 58) (zs := [q0, q1, q2, q3, q4, q5, q6, q7, q8, q9]) hus
        have ej : ¬ 9223372036854775807 < 7 + (mk (joinL 58 [q0, q1, q2, q3, q4, q5, q6, q7, q8, q9])).size := by rw [mk_size]; simp at lj; omega
        have ej2 : ¬ 9223372036854775807 < x.size + (7 + (mk (joinL 58 [q0, q1, q2, q3, q4, q5, q6, q7, q8, q9])).size) := by rw [mk_size]; simp at lj; omega
        have HJ := hide (show x ++ (⟨#[32, 117, 115, 97, 103, 101, 58]⟩ ++ mk (joinL 58 [q0, q1, q2, q3, q4, q5, q6, q7, q8, q9])) = mk (tellL cd nn zs [s0, s1, s2, s3, s4, s5, s6, s7, s8, s9] L [q0, q1, q2, q3, q4, q5, q6, q7, q8, q9]) from by rw [HXE.out, TE.out, hbu, if_neg (by decide), show (⟨#[32, 117, 115, 97, 103, 101, 58]⟩ : ByteArray) = mk [32, 117, 115, 97, 103, 101, 58] from rfl, mk_cat, mk_cat]; simp)
        clear lj
        have BS := hide (show Below W.heap.size W ((wr.alloc (.cells #[.int .i64 q0, .int .i64 q1, .int .i64 q2, .int .i64 q3, .int .i64 q4, .int .i64 q5, .int .i64 q6, .int .i64 q7, .int .i64 q8, .int .i64 q9] 34)).alloc (.cells #[.int .i64 q0, .int .i64 q1, .int .i64 q2, .int .i64 q3, .int .i64 q4, .int .i64 q5, .int .i64 q6, .int .i64 q7, .int .i64 q8, .int .i64 q9] 3)) from (HX.out.2.alloc HX.out.2.size _).alloc (by have := HX.out.2.size; simp; omega) _)
        go_wp2_with (go_at_call 13; refine (join_any _ [q0, q1, q2, q3, q4, q5, q6, q7, q8, q9] _ (rd_newT (wr.alloc _) _ (by simp) [q0, q1, q2, q3, q4, q5, q6, q7, q8, q9] _ (by unfold maxLen; simp)) (by simp) hus).mono ?_; rintro e w3 ⟨rfl, b3⟩; have HB3 := hide (BS.out.trans (b3.mono BS.out.size)); clear b3)
        go_ret
        refine ⟨ret_val ?_, BW.out.trans (HB3.out.mono BW.out.size)⟩
        rw [← HJ.out]
        rfl
end Go.Proofs.YtnljpaohkkdjjaaDoor
