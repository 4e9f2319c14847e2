/- Copies by append; bytes.Clone; the two steps of a root record. -/
import Derived.Test.YtmmhkjpkidljlaaDoorZc10
import Derived.Test.YtmmhkjpkidljlaaDoorZc36
import Derived.Laws.Cover3
namespace Go.Proofs.YtmmhkjpkidljlaaDoor
set_option linter.unusedVariables false
set_option linter.unusedSimpArgs false
open Go.RowKit

theorem own_emptyN (w : World) (e : TypeId) (sz : Nat) : (w.alloc (.cells #[] e)).ownsRow w.heap.size e sz (.slice (some ⟨w.heap.size, 0, none⟩) 0 0) 0 [] :=
  ⟨by simp, .inr ⟨w.heap.size, 0, #[], rfl, Nat.le_refl _, heap_alloc_new w _, Nat.le_refl _, by unfold maxLen; omega, by simp, by simp⟩⟩
theorem run_append_emptyN {P : Program} {w : World} (base : Nat) (t ty e : TypeId) (i : TypeInfo) (size : Nat) (ht : P.underlying t = some (.slice e)) (hi : P.info? e = some i)
    (v : Value) (n : Nat) (xs : List Value) (hown : w.ownsRow base e size v n xs) (a : Option Addr) (c : Nat) :
    (Builtin.append_ #[t, t] ty #[v, .slice a 0 c]).run P w = .ok v w := by
  rcases hown.2 with ⟨rfl, rfl⟩ | ⟨g, cap, cur, rfl, _, _, hnc, _⟩
  · cases a <;> simp [Builtin.append_, run_underlying ht, sizeOf, typeInfo, hi, Builtin.lenOf, Builtin.firstCells, loadCells, loadCellsFrom]
  · cases a <;> simp [Builtin.append_, run_underlying ht, sizeOf, typeInfo, hi, Builtin.lenOf, Builtin.firstCells, hnc, storeCells, loadCells, loadCellsFrom]
theorem wp_append_emptyN {P : Program} {w : World} {o : Oper} {a : Act} {K : Act → World → Prop} {Q : Exit → Act → World → Prop} (s x : Operand) (t : TypeId)
    (ho : o.op = .call { callee := .builtin .append, args := #[s, x], argTypes := #[t, t] })
    (base : Nat) (e : TypeId) (i : TypeInfo) (size : Nat) (ht : P.underlying t = some (.slice e)) (hi : P.info? e = some i)
    (v : Value) (n : Nat) (xs : List Value) (hs : a.eval s = v) (hown : w.ownsRow base e size v n xs) (ad : Option Addr) (c : Nat) (hx : a.eval x = .slice ad 0 c)
    (h : K (a.put o.dst v) w) : o.wp P a w K Q := by
  have hrun := run_append_emptyN (P := P) (w := w) base t o.type e i size ht hi v n xs hown ad c
  unfold Oper.wp
  simp [execOp, ho, resolve, invoke, builtin, hs, hx, hrun, Result.andThen]
  exact h
/-- A copy by append to an empty row: of the cells xs that lie where the slice begins. -/
theorem wp_append_copyN {P : Program} (w : World) {o : Oper} {a : Act} {K : Act → World → Prop} {Q : Exit → Act → World → Prop}
    (s x : Operand) (t : TypeId) (hop : o.op = Op.call { callee := Callee.builtin Builtin.append, args := #[s, x], argTypes := #[t, t] })
    (e : TypeId) (i : TypeInfo) (z : Value) (size bytes : Nat) (h1 : P.underlying t = some (.slice e)) (h2 : P.info? e = some i) (h3 : i.zero = some z) (h4 : i.size = size) (h5 : i.bytes = bytes) (h6 : z.cells.size = size) (h7 : 0 < size)
    (base g : Nat) (hO : w.ownsRow base e size (.slice (some ⟨g, 0, none⟩) 0 0) 0 []) (hbase : base ≤ w.heap.size)
    (hs : a.eval s = .slice (some ⟨g, 0, none⟩) 0 0) (ad : Option Addr) (m c : Nat) (xs : List Value) (hx : a.eval x = .slice ad m c) (hl : xs.length = m * size)
    (hr : 0 < m → ∃ bd off, ad = some ⟨bd, off, none⟩ ∧ bd < w.heap.size ∧ ∀ (j : Nat) (u : Value), xs[j]? = some u → w.cell? ⟨bd, off + j, none⟩ = some u) (hone : ∀ u ∈ xs, u.oneCell' = true) (hm : m ≤ maxLen) (hb : m * bytes ≤ 140737488355328)
    (hK : ∀ v' w', w'.ownsRow base e size v' m xs → w.grownBy w' (some g) → K (a.put o.dst v') w') : o.wp P a w K Q := by
  by_cases hp : 0 < m
  · obtain ⟨bd, off, rfl, hbd, hc⟩ := hr hp
    refine wp_append_own w s x t hop base e i z size bytes h1 h2 h3 h4 h5 h6 h7 _ 0 [] hs hO ⟨bd, off, none⟩ m c xs hx hl (fun j u hj => ?_) hone (by omega) (by rw [Nat.zero_add]; exact hb) hbase ?_
    · rw [Addr.add_mid]
      exact hc j u hj
    · intro v' w' r1 r2 _
      rw [Nat.zero_add, List.nil_append] at r1
      exact hK v' w' r1 r2
  · obtain rfl : m = 0 := by omega
    have hx0 : xs = [] := List.eq_nil_of_length_eq_zero (by omega)
    subst hx0
    refine wp_append_emptyN s x t hop base e i size h1 h2 _ 0 [] hs hO ad c hx ?_
    exact hK _ _ hO (World.grownBy.refl _ _)
theorem Rd.srcN {w : World} {a : Option Addr} {cap : Nat} {zs : List Int} (h : Rd .u8 w (.slice a zs.length cap) zs) : 0 < zs.length → ∃ bd off, a = some ⟨bd, off, none⟩ ∧ bd < w.heap.size ∧ ∀ (j : Nat) (u : Value), (zs.map (Value.int .u8))[j]? = some u → w.cell? ⟨bd, off + j, none⟩ = some u := by
  intro hn
  obtain ⟨bd, off, cp, e, hbw, _, _, hcell⟩ := h.partsC hn
  injection e with e1 e2 e3
  refine ⟨bd, off, e1, hbw, fun j u hu => ?_⟩
  rw [List.getElem?_map] at hu
  have hj : j < zs.length := by
    rcases Nat.lt_or_ge j zs.length with h | h
    · exact h
    · rw [List.getElem?_eq_none h] at hu; cases hu
  rw [hcell j hj]
  rw [List.getElem?_eq_getElem hj] at hu
  simp at hu
  rw [← hu]
  simp [List.getD, hj]
theorem run_eql_nilN {P : Program} (w : World) (t e : TypeId) (a : Option Addr) (l c : Nat) (h : P.underlying t = some (.slice e)) : (binOp .eql t (.slice a l c) (.slice none 0 0)).run P w = .ok (.bool a.isNone) w := by
  simp [binOp, run_equal_slice_nil w t e a l c h]
set_option maxRecDepth 100000 in
set_option maxHeartbeats 1000000 in
theorem clone_any (v : Value) (zs : List Int) (w : World) (h : Rd .u8 w v zs) (hn : zs.length ≤ 1048576) :
    Calls Tryd.prog 19 #[v] w fun e w' => ∃ v', e = .returned v' ∧ w'.ownsRow w.heap.size 5 1 v' zs.length (zs.map (Value.int .u8)) ∧ Below w.heap.size w w' := by
  obtain ⟨i0, hi, hz0, hz1, hz2⟩ := info_parts infoU8
  obtain ⟨a, cap, rfl⟩ := rd_shape h
  have HR := hide h.srcN
  clear h
  cases a with
  | none =>
    have hz : zs = [] := by
      rcases Nat.eq_zero_or_pos zs.length with h0 | h0
      · exact List.eq_nil_of_length_eq_zero h0
      · obtain ⟨_, _, e, _⟩ := HR.out h0
        cases e
    subst hz
    go_enter Tryd.func19, Tryd.ntmps19
    have hq := fun w => run_eql_nilN (P := Tryd.prog) w 48 5 none 0 cap Tryd.underlying48
    go_wp2
    go_ret
    exact ⟨_, rfl, ⟨rfl, .inl ⟨rfl, rfl⟩⟩, Below.refl _ _⟩
  | some ad =>
    have HB := hide (show Below w.heap.size w (w.alloc (.cells #[] 5)) from (Below.refl _ _).alloc (Nat.le_refl _) _)
    have HO := hide (own_emptyN w 5 1)
    have hq := fun w => run_eql_nilN (P := Tryd.prog) w 48 5 (some ad) zs.length cap Tryd.underlying48
    go_enter Tryd.func19, Tryd.ntmps19
    go_wp2_with (first | (at_builtin; refine wpList_plain rfl fun K hK => ?_; refine wp_append_copyN (w.alloc (.cells #[] 5)) (.tmp 5) (.tmp 6) 48 rfl 5 i0 (.int .u8 0) 1 1 Tryd.underlying48 hi hz0 hz1 hz2 rfl (by decide) w.heap.size w.heap.size HO.out HB.out.size rfl (some ad) zs.length cap (zs.map (Value.int .u8)) rfl (by simp) (fun hp => by obtain ⟨bd, off, e, hlt, hc⟩ := HR.out hp; exact ⟨bd, off, e, Nat.lt_of_lt_of_le hlt HB.out.size, fun j u hu => (HB.out.cell (p := ⟨bd, off + j, none⟩) hlt).trans (hc j u hu)⟩) (ints_oneCell _ _) (by unfold maxLen; omega) (by omega) ?_; intro v1 w1 o1 g1; refine hK _ _ ?_; have O1 := hide o1; have B1 := hide (HB.out.grown g1 HB.out.size (fun k e => by cases e; exact Nat.le_refl _)); clear o1 g1) | fail)
    go_ret
    exact ⟨_, rfl, O1.out, B1.out⟩
/-- The steps that write one copy of a record. -/
def recL (slot : Nat) (enc : List Int) : List (Int × Int × List Int) := [(2, (slot : Int), enc), (3, 0, [])]
set_option maxRecDepth 100000 in
set_option maxHeartbeats 1000000 in
theorem recordSteps_any (slot : Nat) (F : List Int) (r : Bool) (enc : List Int) (w : World) (hF : FsK F r enc) (hr : r = true) (hL : LetF w) :
    Calls Tryd.prog 20 #[.int .i64 (slot : Int), .agg (cellsI F)] w fun e w' => ∃ g u, e = .returned (.slice (some ⟨g, 0, none⟩) 2 2) ∧ OwnN w' w.heap.size 54 2 (.slice (some ⟨g, 0, none⟩) 2 2) ((recL slot enc).map neD) [u, .slice none 0 0] ∧ Below w.heap.size w w' := by
  have HF := hide hF
  have HZ := hide (show (cellsI F).size = 68 from by rw [cellsI_size]; exact hF.len)
  have HL := hide hL
  have K0 := hide (And.intro (Blk.new w (cellsI F) 38) (show Below w.heap.size w (w.alloc (.cells (cellsI F) 38)) from (Below.refl _ _).alloc (Nat.le_refl _) _))
  clear hF hL
  go_enter Tryd.func20, Tryd.ntmps20
  go_wp2_with (first | (refine wpList_load_row rfl 38 _ rfl w.heap.size rfl 38 (cellsI F) (0, 0) _ K0.out.1 Tryd.underlying38 rfl (by rw [HZ.out]; exact info68) ?_) | fail)
  refine (HF.out.lay hr _ (HL.out.below K0.out.2)).mono ?_
  rintro e w1 ⟨v1, rfl, o1, b1⟩
  obtain ⟨a1, c1, rfl⟩ := own_shape o1
  have H1 := hide (And.intro (own_mono o1 K0.out.2.size) (K0.out.2.trans (b1.mono K0.out.2.size)))
  clear o1 b1
  go_wp2
  go_ret
  refine ⟨w1.heap.size, .slice a1 enc.length c1, rfl, ?_, H1.out.2.alloc H1.out.2.size _⟩
  refine ⟨rfl, neD_pre _, ?_, fun i u l hu hl => ?_, fun i j u u' b hu hu' hb hb' => ?_⟩
  · exact World.ownsRow_lit (base := w.heap.size) (e := 54) (size := 3) w1 #[.int .i64 2, .int .i64 (slot : Int), .slice a1 enc.length c1, .int .i64 3, .int .i64 0, .slice none 0 0] 2 H1.out.2.size (by unfold maxLen; omega) rfl
  · match i, hu, hl with
    | 0, hu, hl =>
      simp at hu
      subst hu
      have e : neD (2, (slot : Int), enc) = l := Option.some.inj hl
      subst e
      exact own_below H1.out.1 ((Below.refl _ _).alloc (Nat.le_refl _) _)
    | 1, hu, hl =>
      simp at hu
      subst hu
      have e : neD (3, 0, []) = l := Option.some.inj hl
      subst e
      exact ⟨rfl, .inl ⟨rfl, rfl⟩⟩
    | n + 2, hu, hl => simp at hu
  · match i, j, hu, hu' with
    | 0, 0, _, _ => rfl
    | 1, _, hu, _ =>
      simp at hu
      subst hu
      cases hb
    | _, 1, _, hu' =>
      simp at hu'
      subst hu'
      cases hb'
    | n + 2, _, hu, _ => simp at hu
    | _, n + 2, _, hu' => simp at hu'
end Go.Proofs.YtmmhkjpkidljlaaDoor
