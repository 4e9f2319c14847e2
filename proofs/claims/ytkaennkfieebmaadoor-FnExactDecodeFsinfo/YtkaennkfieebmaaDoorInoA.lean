/- Inodes by value: twenty-four integers; the comparison with the empty one. -/
import Derived.Test.YtkaennkfieebmaaDoorRootB
import Derived.ChangeKeysEq
namespace Go.Proofs.YtkaennkfieebmaaDoor
set_option linter.unusedVariables false
set_option linter.unusedSimpArgs false
open Go.RowKit

section
variable {P : Program}
theorem part_one (w : World) {e : TypeId} {k : IntKind} (he : P.underlying e = some (.int k)) {xs : Array Value} {off : Nat} {v : Value} (hx : xs[off]? = some v) : (part e xs off).run P w = .ok v w := by
  simp [part, isAgg, run_underlying he, hx]
theorem part_many (w : World) {t : TypeId} {d : TypeDesc} {i : TypeInfo} (hu : P.underlying t = some d) (hd : (match d with | .struct _ | .array _ _ => true | _ => false) = true) (hi : P.info? t = some i) (xs : Array Value) (off : Nat) :
    (part t xs off).run P w = .ok (.agg (xs.extract off (off + P.cellsOf t))) w := by
  cases d <;> simp at hd <;> simp [part, isAgg, run_underlying hu, run_sizeOf w hi]
theorem eqFields_cons (w : World) {d : Nat} {xs ys : Array Value} {f : Field} {fs : List Field} {a b : Value} {r r' : Bool} (hn : f.name ≠ "_") (h1 : (part f.type xs f.offset).run P w = .ok a w) (h2 : (part f.type ys f.offset).run P w = .ok b w)
    (h3 : (Op.equalIn d f.type a b).run P w = .ok r w) (h4 : (Op.eqFields d xs ys fs).run P w = .ok r' w) : (Op.eqFields d xs ys (f :: fs)).run P w = .ok (r && r') w := by
  simp only [Op.eqFields, hn, ne_eq, not_false_eq_true, if_true, Sem.run_bind, h1, h2, h3, Result.andThen_ok]
  cases r
  · simp
  · simpa using h4
theorem eqItems_cons (w : World) {d : Nat} {e : TypeId} {c : Nat} {xs ys : Array Value} {i : Nat} {is : List Nat} {a b : Value} {r r' : Bool} (h1 : (part e xs (i * c)).run P w = .ok a w) (h2 : (part e ys (i * c)).run P w = .ok b w)
    (h3 : (Op.equalIn d e a b).run P w = .ok r w) (h4 : (Op.eqItems d e c xs ys is).run P w = .ok r' w) : (Op.eqItems d e c xs ys (i :: is)).run P w = .ok (r && r') w := by
  simp only [Op.eqItems, Sem.run_bind, h1, h2, h3, Result.andThen_ok]
  cases r
  · simp
  · simpa using h4
/-- Two rows of integers, item by item. -/
theorem eqItems_ints (w : World) (d : Nat) {e : TypeId} (he : P.underlying e = some (.int .i64)) (xs ys : List Int) : ∀ (is : List Nat), (∀ i ∈ is, i < xs.length ∧ i < ys.length) →
    (Op.eqItems (d + 1) e 1 (cellsI xs) (cellsI ys) is).run P w = .ok (is.all fun i => xs.getD i 0 == ys.getD i 0) w
  | [], _ => by simp [Op.eqItems]
  | i :: is, h => by
    have hi := h i (by simp)
    exact eqItems_cons w (part_one w he (by rw [Nat.mul_one]; exact cellsI_get xs i hi.1)) (part_one w he (by rw [Nat.mul_one]; exact cellsI_get ys i hi.2)) (run_equalIn_int w d e .i64 .i64 _ _ he) (eqItems_ints w d he xs ys is (fun j hj => h j (by simp [hj])))

theorem wpList_eql {ops : Array Oper} {rest : List Oper} {o : Oper} {a : Act} {w : World} {Q : Exit → Act → World → Prop} (hgd : o.guard = none) (t u : TypeId) (x y : Operand) (ho : o.op = .binOp .eql t x y u)
    (cs ds : Array Value) (hx : a.eval x = .agg cs) (hy : a.eval y = .agg ds) (hm : P.eqGuardType P.depth t = false) (b : Bool) (hE : (Op.equalIn 10000 t (.agg cs) (.agg ds)).run P w = .ok b w)
    (h : wpList P ops Q rest (a.put o.dst (.bool b)) w) : wpList P ops Q (o :: rest) a w := by
  refine wpList_plain hgd fun K hK => ?_
  have hrun : (execOp a.eval o).run P w = .ok (.value (.bool b)) w := by
    simp [execOp, ho, hx, hy, run_eqGuard_agg w _ _ _ _ _ _ hm, run_eql_struct, hE, Result.andThen]
  unfold Oper.wp
  rw [hrun, Oper.upon_value]
  exact hK _ _ h
end

/-- The integers of an inode: the nine of its own, then its root's. -/
def inoI (ks : List Int) (s : Int) (ds : List Int) (p q : Int) : List Int := ks ++ rootI s ds p q
theorem inoI_len (ks : List Int) (s : Int) (ds : List Int) (p q : Int) (hk : ks.length = 9) (hd : ds.length = 12) : (inoI ks s ds p q).length = 24 := by
  unfold inoI
  rw [List.length_append, rootI_len s ds p q hd, hk]
theorem cellsT_int : Tryd.prog.cellsOf 3 = 1 := by kernel_rfl
theorem cellsT_12 : Tryd.prog.cellsOf 23 = 12 := by kernel_rfl
theorem cellsT_15 : Tryd.prog.cellsOf 25 = 15 := by kernel_rfl

def zeroB (l : List Int) : Bool := l.all fun x => x == 0
theorem zeroB_iff (l : List Int) : zeroB l = true ↔ ∀ x ∈ l, x = 0 := by simp [zeroB]

theorem structRoot : Tryd.prog.underlying 25 = some (.struct (Tryd.prog.fieldsOf 25)) := by unfold Program.fieldsOf; rw [Tryd.underlying25]
theorem heldRoot : Tryd.prog.stoodInHeld 25 = false := by kernel_rfl
theorem eqArr_zero (w : World) (d : Nat) (ds : List Int) (hd : ds.length = 12) : (Op.equalIn (d + 2) 23 (.agg (cellsI ds)) (.agg (cellsI (List.replicate 12 0)))).run Tryd.prog w = .ok (zeroB ds) w := by
  obtain ⟨i, hi⟩ : ∃ i, Tryd.prog.info? 3 = some i := info_of_underlying Tryd.underlying3
  rw [run_equalIn_array w (d + 1) _ _ Tryd.underlying23 hi, cellsT_int, eqItems_ints w d Tryd.underlying3 ds (List.replicate 12 0) (List.range 12) (by intro j hj; simp at hj ⊢; omega)]
  match ds, hd with
  | [d0, d1, d2, d3, d4, d5, d6, d7, d8, d9, d10, d11], _ => rfl

theorem ino_range (k0 k1 k2 k3 k4 k5 k6 k7 k8 s : Int) (ds : List Int) (p q : Int) (hd : ds.length = 12) {w : World} {b : Nat} {t : TypeId} (h : Blk w b (cellsI (inoI [k0, k1, k2, k3, k4, k5, k6, k7, k8] s ds p q)) t) : w.rangeAt b 9 ((rootI s ds p q).map (Value.int .i64)) := by
  have hr := h.range 9 15 (by rw [inoI_len _ _ _ _ _ rfl hd]; omega)
  have e : ((inoI [k0, k1, k2, k3, k4, k5, k6, k7, k8] s ds p q).drop 9).take 15 = rootI s ds p q := by
    have hl := rootI_len s ds p q hd
    simp only [inoI, List.drop_append, List.length_cons, List.length_nil, List.drop_succ_cons, List.drop_nil, List.nil_append, Nat.sub_self, List.drop_zero]
    exact List.take_of_length_le (by omega)
  rw [e] at hr
  exact hr

theorem ino_of_list (rs : List Int) (h : rs.length = 24) : ∃ k0 k1 k2 k3 k4 k5 k6 k7 k8 s ds p q, ds.length = 12 ∧ rs = inoI [k0, k1, k2, k3, k4, k5, k6, k7, k8] s ds p q := by
  match rs, h with
  | [k0, k1, k2, k3, k4, k5, k6, k7, k8, s, d0, d1, d2, d3, d4, d5, d6, d7, d8, d9, d10, d11, p, q], _ => exact ⟨k0, k1, k2, k3, k4, k5, k6, k7, k8, s, [d0, d1, d2, d3, d4, d5, d6, d7, d8, d9, d10, d11], p, q, rfl, rfl⟩

end Go.Proofs.YtkaennkfieebmaaDoor
