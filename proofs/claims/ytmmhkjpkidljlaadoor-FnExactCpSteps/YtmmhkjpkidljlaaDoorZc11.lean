/- A copy of a root: toRoot. Inodes by value: twenty-four integers; the comparison with the empty one. -/
import Derived.Test.YtmmhkjpkidljlaaDoorZc10
import Derived.ChangeKeysEq
namespace Go.Proofs.YtmmhkjpkidljlaaDoor
set_option linter.unusedVariables false
set_option linter.unusedSimpArgs false
open Go.RowKit

/-- The fifteen integers of a root. -/
def rootI (s : Int) (ds : List Int) (p q : Int) : List Int := s :: (ds ++ [p, q])
theorem rootI_len (s : Int) (ds : List Int) (p q : Int) (hd : ds.length = 12) : (rootI s ds p q).length = 15 := by simp [rootI, hd]
theorem rootI_get13 (s : Int) (ds : List Int) (p q : Int) (hd : ds.length = 12) : (cellsI (rootI s ds p q))[13]? = some (.int .i64 p) := by
  rw [cellsI_get _ _ (by rw [rootI_len s ds p q hd]; omega)]
  match ds, hd with | [_, _, _, _, _, _, _, _, _, _, _, _], _ => rfl
theorem rootI_get14 (s : Int) (ds : List Int) (p q : Int) (hd : ds.length = 12) : (cellsI (rootI s ds p q))[14]? = some (.int .i64 q) := by
  rw [cellsI_get _ _ (by rw [rootI_len s ds p q hd]; omega)]
  match ds, hd with | [_, _, _, _, _, _, _, _, _, _, _, _], _ => rfl
theorem root_build (s : Int) (ds : List Int) (p q : Int) (hd : ds.length = 12) : ((over (s :: List.replicate 14 0) 1 ds).set 13 p).set 14 q = rootI s ds p q := by
  match ds, hd with | [_, _, _, _, _, _, _, _, _, _, _, _], _ => rfl
theorem root_range (s : Int) (ds : List Int) (p q : Int) (hd : ds.length = 12) : ((rootI s ds p q).drop 1).take 12 = ds := by
  match ds, hd with | [_, _, _, _, _, _, _, _, _, _, _, _], _ => rfl

theorem over_at {w2 : World} {b : Nat} {t : TypeId} (s : Int) (ds : List Int) (hd : ds.length = 12) (h : Blk w2 b (cellsI (over (s :: List.replicate 14 0) 1 ds)) t) (k : Nat) (hk : k < 15) : ∃ u, w2.cell? ⟨b, k, none⟩ = some u := by
  rw [h.cell k]
  exact ⟨_, Array.getElem?_eq_getElem (by rw [cellsI_size, over_len _ _ _ (by simp [hd])]; simpa using hk)⟩

set_option maxRecDepth 100000 in
set_option maxHeartbeats 1000000 in
theorem toRoot_any (s : Int) (ds : List Int) (p q : Int) (w : World) (hd : ds.length = 12) :
    Calls Tryd.prog 34 #[.agg (cellsI (rootI s ds p q))] w fun e w' => e = .returned (.agg (cellsI (rootI s ds p q))) ∧ Below w.heap.size w w' := by
  have HD := hide hd
  have c0 : ∀ o1 o2, (((w.alloc (.cells (cellsI (rootI s ds p q)) 25)).alloc o1).alloc o2).cell? ⟨w.heap.size, 0, none⟩ = some (.int .i64 s) := fun o1 o2 => by
    rw [(((Blk.new w _ _).alloc o1).alloc o2).cell 0]; rfl
  clear hd
  go_enter Tryd.func34, Tryd.ntmps34
  go_wp2_with (first
    | (refine wpList_load_mid rfl 23 _ rfl w.heap.size 1 rfl (ds.map (Value.int .i64)) _ (by have h := (((Blk.new w (cellsI (rootI s ds p q)) 25).alloc (.cells (cellsI (List.replicate 15 0)) 36)).alloc (.cells (cellsI (s :: List.replicate 14 0)) 36)).range 1 12 (by rw [rootI_len _ _ _ _ HD.out]; omega); rw [root_range _ _ _ _ HD.out] at h; exact h) Tryd.underlying23 rfl (by rw [List.length_map, HD.out]; exact info12) ?_)
    | (go_at_call 60; fail))
  refine (toIntA12_any ds _ HD.out).mono ?_
  rintro e w1 ⟨rfl, hb1⟩
  have k0 := (((Blk.new w (cellsI (rootI s ds p q)) 25).alloc (.cells (cellsI (List.replicate 15 0)) 36)).alloc (.cells (cellsI (s :: List.replicate 14 0)) 36)).below hb1 (by simp; omega)
  have k1 : Blk w1 (w.heap.size + 1) (cellsI (List.replicate 15 0)) 36 := by
    have h := ((Blk.new (w.alloc (.cells (cellsI (rootI s ds p q)) 25)) (cellsI (List.replicate 15 0)) 36).alloc (.cells (cellsI (s :: List.replicate 14 0)) 36)).below hb1 (by simp)
    rw [World.size_alloc] at h
    exact h
  have k2 : Blk w1 (w.heap.size + 1 + 1) (cellsI (s :: List.replicate 14 0)) 36 := by
    have h := (Blk.new ((w.alloc (.cells (cellsI (rootI s ds p q)) 25)).alloc (.cells (cellsI (List.replicate 15 0)) 36)) (cellsI (s :: List.replicate 14 0)) 36).below hb1 (by simp)
    rw [World.size_alloc, World.size_alloc] at h
    exact h
  have hB : Below w.heap.size w w1 := ((((Below.refl w.heap.size w).alloc (Nat.le_refl _) (.cells (cellsI (rootI s ds p q)) 25)).alloc (by simp) (.cells (cellsI (List.replicate 15 0)) 36)).alloc (by simp; omega) (.cells (cellsI (s :: List.replicate 14 0)) 36)).trans (hb1.mono (by simp; omega))
  have K := hide (And.intro k0 (And.intro k1 (And.intro k2 hB)))
  clear k0 k1 k2 hB hb1 c0
  have K2 := hide (show Blk (w1.setCells (w.heap.size + 1 + 1) 1 (cellsI ds).toList) w.heap.size (cellsI (rootI s ds p q)) 25 ∧ Blk (w1.setCells (w.heap.size + 1 + 1) 1 (cellsI ds).toList) (w.heap.size + 1) (cellsI (List.replicate 15 0)) 36 ∧ Blk (w1.setCells (w.heap.size + 1 + 1) 1 (cellsI ds).toList) (w.heap.size + 1 + 1) (cellsI (over (s :: List.replicate 14 0) 1 ds)) 36 ∧ Below w.heap.size w (w1.setCells (w.heap.size + 1 + 1) 1 (cellsI ds).toList) from
    ⟨Blk.cells_other _ 1 K.out.1 (by omega), Blk.cells_other _ 1 K.out.2.1 (by omega), Blk.cells ds 1 K.out.2.2.1 (by rw [HD.out]; simp), below_cells (by omega) _ 1 K.out.2.2.2⟩)
  have hz15 : (cellsI (rootI s ds p q)).size = 15 := by rw [cellsI_size]; exact rootI_len s ds p q HD.out
  have HZ := hide hz15
  clear hz15
  go_wp2_with (first | (refine wpList_store_mid rfl 23 _ _ rfl (w.heap.size + 1 + 1) 1 (cellsI ds) rfl rfl (K.out.2.2.1.there 1 _ (by rw [cellsI_size, cellsI_size, HD.out]; simp)) (by rw [cellsI_size, HD.out]; exact info12) (cellsI_one ds) ?_; generalize w1.setCells (w.heap.size + 1 + 1) 1 (cellsI ds).toList = w2 at K2 ⊢; have a13 := (K2.out.1.cell 13).trans (rootI_get13 s ds p q HD.out); have a14 := (K2.out.1.cell 14).trans (rootI_get14 s ds p q HD.out); obtain ⟨u13, b13⟩ := over_at s ds HD.out K2.out.2.2.1 13 (by omega); obtain ⟨u14, b14⟩ := over_at s ds HD.out K2.out.2.2.1 14 (by omega); have f13 := K2.out.2.2.1.frozen 13; have f14 := K2.out.2.2.1.frozen 14) | (refine wpList_load_row rfl 36 _ rfl (w.heap.size + 1 + 1) rfl 36 (cellsI (rootI s ds p q)) (0, 0) _ (by have h := (K2.out.2.2.1.set 13 (.int .i64 p)).set 14 (.int .i64 q); rw [cellsI_set, cellsI_set, root_build _ _ _ _ HD.out] at h; exact h) Tryd.underlying36 rfl (by rw [HZ.out]; exact info15) ?_) | (refine wpList_store_row rfl 36 _ _ rfl (w.heap.size + 1) (cellsI (rootI s ds p q)) rfl rfl 36 _ ((K2.out.2.1.other ⟨w.heap.size + 1 + 1, 13, none⟩ (.int .i64 p) (by show w.heap.size + 1 ≠ w.heap.size + 1 + 1; omega)).other ⟨w.heap.size + 1 + 1, 14, none⟩ (.int .i64 q) (by show w.heap.size + 1 ≠ w.heap.size + 1 + 1; omega)) (by rw [HZ.out]; exact info15) (by rw [HZ.out]; rfl) (cellsI_one _) ?_))
  have K3 := (K2.out.2.1.other ⟨w.heap.size + 1 + 1, 13, none⟩ (.int .i64 p) (by show w.heap.size + 1 ≠ w.heap.size + 1 + 1; omega)).other ⟨w.heap.size + 1 + 1, 14, none⟩ (.int .i64 q) (by show w.heap.size + 1 ≠ w.heap.size + 1 + 1; omega)
  refine bodyPost_ret (v := .agg (cellsI (rootI s ds p q))) ?_ rfl ⟨rfl, ?_⟩
  · exact results_cell_row rfl _ _ (w.heap.size + 1) 36 (cellsI (rootI s ds p q)) (0, 0) _ rfl (K3.row _) Tryd.underlying36 rfl (by rw [HZ.out]; exact info15)
  · exact below_setRow ((K2.out.2.2.2.setCell (p := ⟨w.heap.size + 1 + 1, 13, none⟩) (by show _ ≤ w.heap.size + 1 + 1; omega) _).setCell (p := ⟨w.heap.size + 1 + 1, 14, none⟩) (by show _ ≤ w.heap.size + 1 + 1; omega) _) (by omega) _
end Go.Proofs.YtmmhkjpkidljlaaDoor

namespace Go.Proofs.YtmmhkjpkidljlaaDoor
set_option linter.unusedVariables false
set_option linter.unusedSimpArgs false
open Go.RowKit

section
variable {P : Program}
theorem part_one (w : World) {e : TypeId} {k : IntKind} (he : P.underlying e = some (.int k)) {xs : Array Value} {off : Nat} {v : Value} (hx : xs[off]? = some v) : (part e xs off).run P w = .ok v w := by
  simp [part, isAgg, run_underlying he, hx]
theorem part_many (w : World) {t : TypeId} {d : TypeDesc} {i : TypeInfo} (hu : P.underlying t = some d) (hd : (match d with | .struct _ | .array _ _ => true | _ => false) = true) (hi : P.info? t = some i) (xs : Array Value) (off : Nat) :
    (part t xs off).run P w = .ok (.agg (xs.extract off (off + P.cellsOf t))) w := by
  cases d <;> simp at hd <;> simp [part, isAgg, run_underlying hu, run_sizeOf w hi]
theorem eqFields_cons (w : World) {d : Nat} {xs ys : Array Value} {f : Field} {fs : List Field} {a b : Value} {r r' : Bool} (hn : f.name ≠ "_") (h1 : (part f.type xs f.offset).run P w = .ok a w) (h2 : (part f.type ys f.offset).run P w = .ok b w)
    (h3 : (Op.equalIn d f.type a b).run P w = .ok r w) (h4 : (Op.eqFields d xs ys fs).run P w = .ok r' w) : (Op.eqFields d xs ys (f :: fs)).run P w = .ok (r && r') w := by
  simp only [Op.eqFields, hn, ne_eq, not_false_eq_true, if_true, Sem.run_bind, h1, h2, h3, Result.andThen_ok]
  cases r
  · simp
  · simpa using h4
theorem eqItems_cons (w : World) {d : Nat} {e : TypeId} {c : Nat} {xs ys : Array Value} {i : Nat} {is : List Nat} {a b : Value} {r r' : Bool} (h1 : (part e xs (i * c)).run P w = .ok a w) (h2 : (part e ys (i * c)).run P w = .ok b w)
    (h3 : (Op.equalIn d e a b).run P w = .ok r w) (h4 : (Op.eqItems d e c xs ys is).run P w = .ok r' w) : (Op.eqItems d e c xs ys (i :: is)).run P w = .ok (r && r') w := by
  simp only [Op.eqItems, Sem.run_bind, h1, h2, h3, Result.andThen_ok]
  cases r
  · simp
  · simpa using h4
/-- Two rows of integers, item by item. -/
theorem eqItems_ints (w : World) (d : Nat) {e : TypeId} (he : P.underlying e = some (.int .i64)) (xs ys : List Int) : ∀ (is : List Nat), (∀ i ∈ is, i < xs.length ∧ i < ys.length) →
    (Op.eqItems (d + 1) e 1 (cellsI xs) (cellsI ys) is).run P w = .ok (is.all fun i => xs.getD i 0 == ys.getD i 0) w
  | [], _ => by simp [Op.eqItems]
  | i :: is, h => by
    have hi := h i (by simp)
    exact eqItems_cons w (part_one w he (by rw [Nat.mul_one]; exact cellsI_get xs i hi.1)) (part_one w he (by rw [Nat.mul_one]; exact cellsI_get ys i hi.2)) (run_equalIn_int w d e .i64 .i64 _ _ he) (eqItems_ints w d he xs ys is (fun j hj => h j (by simp [hj])))

theorem wpList_eql {ops : Array Oper} {rest : List Oper} {o : Oper} {a : Act} {w : World} {Q : Exit → Act → World → Prop} (hgd : o.guard = none) (t u : TypeId) (x y : Operand) (ho : o.op = .binOp .eql t x y u)
    (cs ds : Array Value) (hx : a.eval x = .agg cs) (hy : a.eval y = .agg ds) (hm : P.eqGuardType P.depth t = false) (b : Bool) (hE : (Op.equalIn 10000 t (.agg cs) (.agg ds)).run P w = .ok b w)
    (h : wpList P ops Q rest (a.put o.dst (.bool b)) w) : wpList P ops Q (o :: rest) a w := by
  refine wpList_plain hgd fun K hK => ?_
  have hrun : (execOp a.eval o).run P w = .ok (.value (.bool b)) w := by
    simp [execOp, ho, hx, hy, run_eqGuard_agg w _ _ _ _ _ _ hm, run_eql_struct, hE, Result.andThen]
  unfold Oper.wp
  rw [hrun, Oper.upon_value]
  exact hK _ _ h
end

/-- The integers of an inode: the nine of its own, then its root's. -/
def inoI (ks : List Int) (s : Int) (ds : List Int) (p q : Int) : List Int := ks ++ rootI s ds p q
theorem inoI_len (ks : List Int) (s : Int) (ds : List Int) (p q : Int) (hk : ks.length = 9) (hd : ds.length = 12) : (inoI ks s ds p q).length = 24 := by
  unfold inoI
  rw [List.length_append, rootI_len s ds p q hd, hk]
theorem cellsT_int : Tryd.prog.cellsOf 3 = 1 := by kernel_rfl
theorem cellsT_12 : Tryd.prog.cellsOf 23 = 12 := by kernel_rfl
theorem cellsT_15 : Tryd.prog.cellsOf 36 = 15 := by kernel_rfl

def zeroB (l : List Int) : Bool := l.all fun x => x == 0
theorem zeroB_iff (l : List Int) : zeroB l = true ↔ ∀ x ∈ l, x = 0 := by simp [zeroB]

theorem structRoot : Tryd.prog.underlying 36 = some (.struct (Tryd.prog.fieldsOf 36)) := by unfold Program.fieldsOf; rw [Tryd.underlying36]
theorem heldRoot : Tryd.prog.stoodInHeld 36 = false := by kernel_rfl
theorem eqArr_zero (w : World) (d : Nat) (ds : List Int) (hd : ds.length = 12) : (Op.equalIn (d + 2) 23 (.agg (cellsI ds)) (.agg (cellsI (List.replicate 12 0)))).run Tryd.prog w = .ok (zeroB ds) w := by
  obtain ⟨i, hi⟩ : ∃ i, Tryd.prog.info? 3 = some i := info_of_underlying Tryd.underlying3
  rw [run_equalIn_array w (d + 1) _ _ Tryd.underlying23 hi, cellsT_int, eqItems_ints w d Tryd.underlying3 ds (List.replicate 12 0) (List.range 12) (by intro j hj; simp at hj ⊢; omega)]
  match ds, hd with
  | [d0, d1, d2, d3, d4, d5, d6, d7, d8, d9, d10, d11], _ => rfl

theorem ino_range (k0 k1 k2 k3 k4 k5 k6 k7 k8 s : Int) (ds : List Int) (p q : Int) (hd : ds.length = 12) {w : World} {b : Nat} {t : TypeId} (h : Blk w b (cellsI (inoI [k0, k1, k2, k3, k4, k5, k6, k7, k8] s ds p q)) t) : w.rangeAt b 9 ((rootI s ds p q).map (Value.int .i64)) := by
  have hr := h.range 9 15 (by rw [inoI_len _ _ _ _ _ rfl hd]; omega)
  have e : ((inoI [k0, k1, k2, k3, k4, k5, k6, k7, k8] s ds p q).drop 9).take 15 = rootI s ds p q := by
    have hl := rootI_len s ds p q hd
    simp only [inoI, List.drop_append, List.length_cons, List.length_nil, List.drop_succ_cons, List.drop_nil, List.nil_append, Nat.sub_self, List.drop_zero]
    exact List.take_of_length_le (by omega)
  rw [e] at hr
  exact hr

theorem ino_of_list (rs : List Int) (h : rs.length = 24) : ∃ k0 k1 k2 k3 k4 k5 k6 k7 k8 s ds p q, ds.length = 12 ∧ rs = inoI [k0, k1, k2, k3, k4, k5, k6, k7, k8] s ds p q := by
  match rs, h with
  | [k0, k1, k2, k3, k4, k5, k6, k7, k8, s, d0, d1, d2, d3, d4, d5, d6, d7, d8, d9, d10, d11, p, q], _ => exact ⟨k0, k1, k2, k3, k4, k5, k6, k7, k8, s, [d0, d1, d2, d3, d4, d5, d6, d7, d8, d9, d10, d11], p, q, rfl, rfl⟩

end Go.Proofs.YtmmhkjpkidljlaaDoor
