/- Helpers of the law on tables: an inode held against itself, copies by append, bytes as strings. -/
import Derived.Test.YtlgafpjmifacmaaDoorZt40
import Derived.Test.YtlgafpjmifacmaaDoorZt41
import Derived.Laws.BytesArg
namespace Go.Proofs.YtlgafpjmifacmaaDoor
set_option linter.unusedVariables false
set_option linter.unusedSimpArgs false
open Go.RowKit

theorem eqArr_self (w : World) (d : Nat) (ds : List Int) (hd : ds.length = 12) : (Op.equalIn (d + 2) 40 (.agg (cellsI ds)) (.agg (cellsI ds))).run Tryd.prog w = .ok true w := by
  obtain ⟨i, hi⟩ : ∃ i, Tryd.prog.info? 3 = some i := info_of_underlying Tryd.underlying3
  rw [run_equalIn_array w (d + 1) _ _ Tryd.underlying40 hi, cellsT_int, eqItems_ints w d Tryd.underlying3 ds ds (List.range 12) (by intro j hj; simp at hj ⊢; omega)]
  simp
set_option maxRecDepth 100000 in
theorem eqRoot_self (w : World) (d : Nat) (s : Int) (ds : List Int) (p q : Int) (hd : ds.length = 12) :
    (Op.equalIn (d + 3) 42 (.agg (cellsI (rootI s ds p q))) (.agg (cellsI (rootI s ds p q)))).run Tryd.prog w = .ok true w := by
  obtain ⟨i12, hi12⟩ := info_of_underlying Tryd.underlying40
  have e1 : (cellsI (rootI s ds p q)).extract 1 (1 + Tryd.prog.cellsOf 40) = cellsI ds := by
    rw [cellsT_12]
    match ds, hd with | [_, _, _, _, _, _, _, _, _, _, _, _], _ => rfl
  have h := eqArr_self w d ds hd
  rw [← e1] at h
  rw [run_equalIn_agg w (d + 2) _ _ _ structRoot heldRoot]
  unfold Program.fieldsOf
  rw [Tryd.underlying42, show true = ((s == s) && (true && ((p == p) && ((q == q) && true)))) by simp]
  exact eqFields_cons w (by decide) (part_one w Tryd.underlying3 (v := .int .i64 s) rfl) (part_one w Tryd.underlying3 (v := .int .i64 s) rfl) (run_equalIn_int w (d + 1) _ .i64 .i64 _ _ Tryd.underlying3) (eqFields_cons w (by decide) (part_many w Tryd.underlying40 rfl hi12 _ _) (part_many w Tryd.underlying40 rfl hi12 _ _) h (eqFields_cons w (by decide) (part_one w Tryd.underlying3 (v := .int .i64 p) (rootI_get13 s ds p q hd)) (part_one w Tryd.underlying3 (v := .int .i64 p) (rootI_get13 s ds p q hd)) (run_equalIn_int w (d + 1) _ .i64 .i64 _ _ Tryd.underlying3) (eqFields_cons w (by decide) (part_one w Tryd.underlying3 (v := .int .i64 q) (rootI_get14 s ds p q hd)) (part_one w Tryd.underlying3 (v := .int .i64 q) (rootI_get14 s ds p q hd)) (run_equalIn_int w (d + 1) _ .i64 .i64 _ _ Tryd.underlying3) (by simp [Op.eqFields]))))
set_option maxRecDepth 100000 in
theorem eqIno_self (w : World) (d : Nat) (k0 k1 k2 k3 k4 k5 k6 k7 k8 s : Int) (ds : List Int) (p q : Int) (hd : ds.length = 12) :
    (Op.equalIn (d + 5) 44 (.agg (cellsI (inoI [k0, k1, k2, k3, k4, k5, k6, k7, k8] s ds p q))) (.agg (cellsI (inoI [k0, k1, k2, k3, k4, k5, k6, k7, k8] s ds p q)))).run Tryd.prog w = .ok true w := by
  obtain ⟨i15, hi15⟩ := info_of_underlying Tryd.underlying42
  have e1 : (cellsI (inoI [k0, k1, k2, k3, k4, k5, k6, k7, k8] s ds p q)).extract 9 (9 + Tryd.prog.cellsOf 42) = cellsI (rootI s ds p q) := by
    rw [cellsT_15]
    match ds, hd with | [_, _, _, _, _, _, _, _, _, _, _, _], _ => rfl
  have h := eqRoot_self w (d + 1) s ds p q hd
  rw [← e1] at h
  rw [run_equalIn_agg w (d + 4) _ _ _ structIno heldIno]
  unfold Program.fieldsOf
  rw [Tryd.underlying44, show true = ((k0 == k0) && ((k1 == k1) && ((k2 == k2) && ((k3 == k3) && ((k4 == k4) && ((k5 == k5) && ((k6 == k6) && ((k7 == k7) && ((k8 == k8) && (true && true)))))))))) by simp]
  exact eqFields_cons w (by decide) (part_one w Tryd.underlying3 (v := .int .i64 k0) rfl) (part_one w Tryd.underlying3 (v := .int .i64 k0) rfl) (run_equalIn_int w (d + 3) _ .i64 .i64 _ _ Tryd.underlying3) (eqFields_cons w (by decide) (part_one w Tryd.underlying3 (v := .int .i64 k1) rfl) (part_one w Tryd.underlying3 (v := .int .i64 k1) rfl) (run_equalIn_int w (d + 3) _ .i64 .i64 _ _ Tryd.underlying3) (eqFields_cons w (by decide) (part_one w Tryd.underlying3 (v := .int .i64 k2) rfl) (part_one w Tryd.underlying3 (v := .int .i64 k2) rfl) (run_equalIn_int w (d + 3) _ .i64 .i64 _ _ Tryd.underlying3) (eqFields_cons w (by decide) (part_one w Tryd.underlying3 (v := .int .i64 k3) rfl) (part_one w Tryd.underlying3 (v := .int .i64 k3) rfl) (run_equalIn_int w (d + 3) _ .i64 .i64 _ _ Tryd.underlying3) (eqFields_cons w (by decide) (part_one w Tryd.underlying3 (v := .int .i64 k4) rfl) (part_one w Tryd.underlying3 (v := .int .i64 k4) rfl) (run_equalIn_int w (d + 3) _ .i64 .i64 _ _ Tryd.underlying3) (eqFields_cons w (by decide) (part_one w Tryd.underlying3 (v := .int .i64 k5) rfl) (part_one w Tryd.underlying3 (v := .int .i64 k5) rfl) (run_equalIn_int w (d + 3) _ .i64 .i64 _ _ Tryd.underlying3) (eqFields_cons w (by decide) (part_one w Tryd.underlying3 (v := .int .i64 k6) rfl) (part_one w Tryd.underlying3 (v := .int .i64 k6) rfl) (run_equalIn_int w (d + 3) _ .i64 .i64 _ _ Tryd.underlying3) (eqFields_cons w (by decide) (part_one w Tryd.underlying3 (v := .int .i64 k7) rfl) (part_one w Tryd.underlying3 (v := .int .i64 k7) rfl) (run_equalIn_int w (d + 3) _ .i64 .i64 _ _ Tryd.underlying3) (eqFields_cons w (by decide) (part_one w Tryd.underlying3 (v := .int .i64 k8) rfl) (part_one w Tryd.underlying3 (v := .int .i64 k8) rfl) (run_equalIn_int w (d + 3) _ .i64 .i64 _ _ Tryd.underlying3) (eqFields_cons w (by decide) (part_many w Tryd.underlying42 rfl hi15 _ _) (part_many w Tryd.underlying42 rfl hi15 _ _) h (by simp [Op.eqFields]))))))))))
theorem eqInoS (w : World) (r : List Int) (h : r.length = 24) : (Op.equalIn 10000 44 (.agg (cellsI r)) (.agg (cellsI r))).run Tryd.prog w = .ok true w := by
  have := eqIno_self w 9995 (r.getD 0 0) (r.getD 1 0) (r.getD 2 0) (r.getD 3 0) (r.getD 4 0) (r.getD 5 0) (r.getD 6 0) (r.getD 7 0) (r.getD 8 0) (r.getD 9 0) ((r.drop 10).take 12) (r.getD 22 0) (r.getD 23 0) (parts_row r h).2
  rw [← (parts_row r h).1] at this
  exact this

theorem run_append_emptyT {P : Program} {w : World} (base : Nat) (t ty e : TypeId) (i : TypeInfo) (size : Nat) (ht : P.underlying t = some (.slice e)) (hi : P.info? e = some i)
    (v : Value) (n : Nat) (xs : List Value) (hown : w.ownsRow base e size v n xs) (a : Option Addr) (c : Nat) :
    (Builtin.append_ #[t, t] ty #[v, .slice a 0 c]).run P w = .ok v w := by
  rcases hown.2 with ⟨rfl, rfl⟩ | ⟨g, cap, cur, rfl, _, _, hnc, _⟩
  · cases a <;> simp [Builtin.append_, run_underlying ht, sizeOf, typeInfo, hi, Builtin.lenOf, Builtin.firstCells, loadCells, loadCellsFrom]
  · cases a <;> simp [Builtin.append_, run_underlying ht, sizeOf, typeInfo, hi, Builtin.lenOf, Builtin.firstCells, hnc, storeCells, loadCells, loadCellsFrom]
theorem wpList_append_emptyT {P : Program} {w : World} {ops : Array Oper} {rest : List Oper} {o : Oper} {a : Act} {Q : Exit → Act → World → Prop} (hgd : o.guard = none) (s x : Operand) (t : TypeId)
    (ho : o.op = .call { callee := .builtin .append, args := #[s, x], argTypes := #[t, t] })
    (base : Nat) (e : TypeId) (i : TypeInfo) (size : Nat) (ht : P.underlying t = some (.slice e)) (hi : P.info? e = some i)
    (v : Value) (n : Nat) (xs : List Value) (hs : a.eval s = v) (hown : w.ownsRow base e size v n xs) (ad : Option Addr) (c : Nat) (hx : a.eval x = .slice ad 0 c)
    (h : wpList P ops Q rest (a.put o.dst v) w) : wpList P ops Q (o :: rest) a w := by
  refine wpList_plain hgd fun K hK => ?_
  have hrun := run_append_emptyT (P := P) (w := w) base t o.type e i size ht hi v n xs hown ad c
  unfold Oper.wp
  simp [execOp, ho, resolve, invoke, builtin, hs, hx, hrun, Result.andThen]
  exact hK _ _ h
/-- A copy by append to an empty row: of the cells xs that lie where the slice begins. -/
theorem wpList_append_copy {P : Program} (w : World) {ops : Array Oper} {rest : List Oper} {o : Oper} {a : Act} {Q : Exit → Act → World → Prop}
    (hg : o.guard = none) (s x : Operand) (t : TypeId) (hop : o.op = Op.call { callee := Callee.builtin Builtin.append, args := #[s, x], argTypes := #[t, t] })
    (e : TypeId) (i : TypeInfo) (z : Value) (size bytes : Nat) (h1 : P.underlying t = some (.slice e)) (h2 : P.info? e = some i) (h3 : i.zero = some z) (h4 : i.size = size) (h5 : i.bytes = bytes) (h6 : z.cells.size = size) (h7 : 0 < size)
    (hs : a.eval s = .slice (some ⟨w.heap.size, 0, none⟩) 0 0) (ad : Option Addr) (m c : Nat) (xs : List Value) (hx : a.eval x = .slice ad m c) (hl : xs.length = m * size)
    (hr : 0 < m → ∃ bd off, ad = some ⟨bd, off, none⟩ ∧ bd < w.heap.size ∧ ∀ j u, xs[j]? = some u → w.cell? ⟨bd, off + j, none⟩ = some u) (hone : ∀ u ∈ xs, u.oneCell' = true) (hm : m ≤ maxLen) (hb : m * bytes ≤ 140737488355328)
    (hK : ∀ v' w', w'.ownsRow w.heap.size e size v' m xs → Below w.heap.size w w' → wpList P ops Q rest (a.put o.dst v') w') :
    wpList P ops Q (o :: rest) a (w.alloc (.cells #[] e)) := by
  have hB : Below w.heap.size w (w.alloc (.cells #[] e)) := (Below.refl _ _).alloc (Nat.le_refl _) _
  have hO := own_emptyS w e size
  by_cases hp : 0 < m
  · obtain ⟨bd, off, rfl, hbd, hc⟩ := hr hp
    refine append_fresh (w.alloc (.cells #[] e)) hg s x t hop w.heap.size e i z size bytes h1 h2 h3 h4 h5 h6 h7 _ 0 [] hs hO ⟨bd, off, none⟩ m c xs hx hl (fun j u hj => ?_) hone hp (by omega) (by rw [Nat.zero_add]; exact hb) (by simp) ?_
    · rw [Addr.add_mid]
      exact (hB.cell (p := ⟨bd, off + j, none⟩) hbd).trans (hc j u hj)
    · intro v' w' r1 r2 _
      rw [Nat.zero_add, List.nil_append] at r1
      exact hK v' w' r1 (hB.grown r2 hB.size (fun k e => by cases e; exact Nat.le_refl _))
  · obtain rfl : m = 0 := by omega
    have hx0 : xs = [] := List.eq_nil_of_length_eq_zero (by omega)
    subst hx0
    refine wpList_append_emptyT hg s x t hop w.heap.size e i size h1 h2 _ 0 [] hs hO ad c hx ?_
    exact hK _ _ hO hB
theorem RdT.src {w : World} {a : Option Addr} {n cap : Nat} {zs : List Int} (h : RdT w (.slice a n cap) n zs) : 0 < n → ∃ bd off, a = some ⟨bd, off, none⟩ ∧ bd < w.heap.size ∧ ∀ j u, (zs.map (Value.int .i64))[j]? = some u → w.cell? ⟨bd, off + j, none⟩ = some u := by
  intro hn
  have hz := h.1
  obtain ⟨b, off, rfl, hb, hc⟩ := h.get hn
  refine ⟨b, off, rfl, hb, fun j u hu => ?_⟩
  rw [List.getElem?_map] at hu
  have hj : j < zs.length := by
    rcases Nat.lt_or_ge j zs.length with h | h
    · exact h
    · rw [List.getElem?_eq_none h] at hu; cases hu
  rw [hc j (by omega)]
  rw [List.getElem?_eq_getElem hj] at hu
  simp at hu
  rw [← hu]
  simp [List.getD, hj]
theorem Rd.src {w : World} {a : Option Addr} {cap : Nat} {zs : List Int} (h : Rd .u8 w (.slice a zs.length cap) zs) : 0 < zs.length → ∃ bd off, a = some ⟨bd, off, none⟩ ∧ bd < w.heap.size ∧ ∀ j u, (zs.map (Value.int .u8))[j]? = some u → w.cell? ⟨bd, off + j, none⟩ = some u := by
  intro hn
  obtain ⟨bd, off, cp, e, hbw, _, _, hcell⟩ := h.partsC hn
  injection e with e1 e2 e3
  refine ⟨bd, off, e1, hbw, fun j u hu => ?_⟩
  rw [List.getElem?_map] at hu
  have hj : j < zs.length := by
    rcases Nat.lt_or_ge j zs.length with h | h
    · exact h
    · rw [List.getElem?_eq_none h] at hu; cases hu
  rw [hcell j hj]
  rw [List.getElem?_eq_getElem hj] at hu
  simp at hu
  rw [← hu]
  simp [List.getD, hj]
theorem cpT_any (v : Value) (zs : List Int) (w : World) (h : Rd .u8 w v zs) (hn : zs.length ≤ 262144) :
    Calls Tryd.prog 21 #[v] w fun e w' => ∃ v', e = .returned v' ∧ w'.ownsRow w.heap.size 5 1 v' zs.length (zs.map (Value.int .u8)) ∧ Below w.heap.size w w' := by
  obtain ⟨i0, hi, hz0, hz1, hz2⟩ := info_parts infoU8
  obtain ⟨a, cap, rfl⟩ : ∃ a cap, v = .slice a zs.length cap := by obtain ⟨a, cap, e, _⟩ := h; exact ⟨a, cap, e⟩
  have HR := hide h.src
  clear h
  go_enter Tryd.func21, Tryd.ntmps21
  go_wp2_with (first | (at_builtin; refine wpList_append_copy w rfl (.tmp 3) (.tmp 4) 24 rfl 5 i0 (.int .u8 0) 1 1 Tryd.underlying24 hi hz0 hz1 hz2 rfl (by decide) rfl a zs.length cap (zs.map (Value.int .u8)) rfl (by simp) HR.out (ints_oneCell _ _) (by unfold maxLen; omega) (by omega) ?_; intro v1 w1 o1 b1; have O1 := hide o1; have B1 := hide b1; clear o1 b1) | fail)
  go_ret
  exact ⟨_, rfl, O1.out, B1.out⟩
theorem conv_rdT {w : World} {v : Value} {xs : List Int} (h : Rd .u8 w v xs) : (convert 24 9 v).run Tryd.prog w = .ok (.string (strOfNums xs)) w := by
  obtain ⟨a, cap, rfl, hm, hc, h1, h2⟩ := h
  by_cases hne : xs = []
  · subst hne
    rw [run_convert_bytes_string w 24 9 5 _ _ cap Tryd.underlying24 Tryd.underlying5 Tryd.underlying9]
    cases a with
    | none => simp [Conv.bytesToString]; rfl
    | some ad =>
      exact run_bytesToString w ad 0 cap [] (by simpa using run_loadCells_list (P := Tryd.prog) w ad [] (by simp))
  · obtain ⟨b, off, rfl, _, hcell⟩ := hc hne
    exact run_convert_bytes_arg w 24 5 Tryd.underlying24 Tryd.underlying5 b off xs.length cap xs rfl hcell 9 Tryd.underlying9
theorem wpList_convT {ops : Array Oper} {rest : List Oper} {o : Oper} {a : Act} {w : World} {Q : Exit → Act → World → Prop} (hgd : o.guard = none) (x : Operand) (ho : o.op = .convert 24 9 x) (v : Value) (hx : a.eval x = v) (xs : List Int) (hr : Rd .u8 w v xs)
    (h : wpList Tryd.prog ops Q rest (a.put o.dst (.string (strOfNums xs))) w) : wpList Tryd.prog ops Q (o :: rest) a w := by
  refine wpList_plain hgd fun K hK => ?_
  unfold Oper.wp execOp
  simp only [ho, hx, Sem.run_bind, Sem.run_pure, Result.andThen_ok, conv_rdT hr]
  exact hK _ _ h
theorem smB_any (v u : Value) (zs : List Int) (w : World) (h : Rd .u8 w v zs) (k : Rd .u8 w u zs) :
    Calls Tryd.prog 22 #[v, u] w fun e w' => e = .returned (.bool true) ∧ w' = w := by
  have H := hide h
  have K := hide k
  clear h k
  go_enter Tryd.func22, Tryd.ntmps22
  go_wp2_with (first | (refine wpList_convT rfl _ rfl v rfl zs H.out ?_) | (refine wpList_convT rfl _ rfl u rfl zs K.out ?_) | fail)
  go_ret
  exact ⟨by first | rfl | simp, rfl⟩
end Go.Proofs.YtlgafpjmifacmaaDoor
