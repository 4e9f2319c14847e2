/- The program reads a root: readRoot. Inodes by value: twenty-four integers; the comparison with the empty one. The model's look at a root: l02Pointer, l02Pointers, l02Root. The model's look at a root, whole: l02Root; its bytes: l02RootBytes; EncodeRoot. -/
import Derived.Test.YtplieplmhdfndaaGreatDoorZw04
import Derived.Test.YtplieplmhdfndaaGreatDoorZw05
import Derived.Test.YtplieplmhdfndaaGreatDoorZw06
import Derived.ChangeKeysEq
import Derived.Test.YtplieplmhdfndaaGreatDoorZw02
namespace Go.Proofs.YtplieplmhdfndaaGreatDoor
set_option linter.unusedVariables false
set_option linter.unusedSimpArgs false
open Go.RowKit

theorem Flt.store {w : World} {lo g o : Nat} {y : Int} {x : Value} (ho : o ≠ 0) (hy : w.cell? ⟨g, o, none⟩ = some (.int .i64 y)) : ∀ {n : Nat} {v : Value} {c : Int}, Flt w lo n v c → Flt (w.setCell ⟨g, o, none⟩ x) lo n v c
  | 0, _, _, ⟨b, h, hl, hc⟩ => ⟨b, h, hl, (World.cell?_setCell_other _ _ _ _ (by intro e; injection e with e1 e2; exact ho e2)).trans hc⟩
  | _ + 1, _, _, ⟨b, v', h, hl, hc, hr⟩ => by
    refine ⟨b, v', h, hl, (World.cell?_setCell_other _ _ _ _ ?_).trans hc, Flt.store ho hy hr⟩
    intro e
    rw [e, hc] at hy
    obtain ⟨t, z, rfl⟩ := hr.iface
    cases hy
theorem Rdr.store {w0 w : World} {b lo : Nat} {ok : Bool} {dv : Value} {zs : List Int} {pos g o : Nat} {y : Int} (x : Value) (h : Rdr w0 w b lo ok dv zs pos) (hg : b < g) (ho : o ≠ 0) (hy : w.cell? ⟨g, o, none⟩ = some (.int .i64 y)) : Rdr w0 (w.setCell ⟨g, o, none⟩ x) b lo ok dv zs pos := by
  have hne : ∀ o', (⟨g, o, none⟩ : Addr) ≠ ⟨b, o', none⟩ := fun o' e => by injection e with e1 e2; omega
  have hc : ∀ o', (w.setCell ⟨g, o, none⟩ x).cell? ⟨b, o', none⟩ = w.cell? ⟨b, o', none⟩ := fun o' => World.cell?_setCell_other _ _ _ _ (hne o')
  obtain ⟨c1, c2, ev, c3, c4⟩ := h.ck
  refine ⟨⟨(hc 0).trans c1, by simpa using c2, ev, (hc 1).trans c3, ?_⟩, (hc 2).trans h.data, (hc 3).trans h.at_, by simpa using h.fr, h.old.setCell (p := ⟨g, o, none⟩) (Nat.le_of_lt hg) _, h.size, h.rd, h.le, h.lo1, by simpa using h.lo2⟩
  rcases c4 with c4 | ⟨c4, n, c5⟩
  · exact .inl c4
  · exact .inr ⟨c4, n, c5.store ho hy⟩
theorem Rdr.below {w0 w w' : World} {b lo : Nat} {ok : Bool} {dv : Value} {zs : List Int} {pos : Nat} (h : Rdr w0 w b lo ok dv zs pos) (hb : Below w.heap.size w w') : Rdr w0 w' b lo ok dv zs pos :=
  ⟨h.ck.below hb, (hb.cell (p := ⟨b, 2, none⟩) h.ck.lt).trans h.data, (hb.cell (p := ⟨b, 3, none⟩) h.ck.lt).trans h.at_, (hb.frozen (p := ⟨b, 3, none⟩) h.ck.lt).trans h.fr, h.old.trans (hb.mono (Nat.le_of_lt h.ck.lt)), h.size, h.rd, h.le, h.lo1, Nat.le_trans h.lo2 hb.size⟩
theorem Rdr.alloc {w0 w : World} {b lo : Nat} {ok : Bool} {dv : Value} {zs : List Int} {pos : Nat} (h : Rdr w0 w b lo ok dv zs pos) (o : Obj) : Rdr w0 (w.alloc o) b lo ok dv zs pos := h.below ((Below.refl _ _).alloc (Nat.le_refl _) _)
theorem grow_set {w w1 : World} {r : Option Nat} (h : w.grownBy w1 r) (g o : Nat) (v : Value) (hg : w.heap.size ≤ g) : w.grownBy (w1.setCell ⟨g, o, none⟩ v) r :=
  ⟨h.os, h.tape, h.output, by simpa using h.size, fun k hk hne => (Below.heap_setCell w1 ⟨g, o, none⟩ _ k (by show k ≠ g; omega)).trans (h.block k hk hne)⟩
theorem grow_row {w w1 : World} {r : Option Nat} (h : w.grownBy w1 r) (g : Nat) (cs : Array Value) (hg : w.heap.size ≤ g) : w.grownBy (w1.setRow g cs) r :=
  ⟨h.os, h.tape, h.output, by simpa [World.setRow] using h.size, fun k hk hne => by
    rw [← h.block k hk hne]
    simp [World.setRow, Array.getElem?_modify, show ¬ g = k by omega]⟩

theorem cellsI_int {xs : List Int} {k : Nat} {v : Value} (h : (cellsI xs)[k]? = some v) : ∃ z, xs[k]? = some z ∧ v = .int .i64 z := by
  have h' : (xs.map (Value.int .i64))[k]? = some v := by simpa [cellsI] using h
  rw [List.getElem?_map] at h'
  cases e : xs[k]? with
  | none => rw [e] at h'; cases h'
  | some z => rw [e] at h'; exact ⟨z, rfl, by simpa using h'.symm⟩
theorem Flt.row {w : World} {lo g : Nat} {xs : List Int} {t : TypeId} {cs : Array Value} {c : Int} (hB : Blk w g (cellsI xs) t) (hx : xs[0]? ≠ some c) : ∀ {n : Nat} {v : Value}, Flt w lo n v c → Flt (w.setRow g cs) lo n v c
  | 0, _, ⟨b, h, hl, hc⟩ => by
    refine ⟨b, h, hl, (World.cell?_of_block (a := ⟨b, 0, none⟩) (setRow_block w g cs b ?_)).trans hc⟩
    rintro rfl
    rw [hB.cell 0] at hc
    obtain ⟨z, h1, h2⟩ := cellsI_int hc
    injection h2 with _ h3
    rw [h3] at hx
    exact hx h1
  | _ + 1, _, ⟨b, v', h, hl, hc, hr⟩ => by
    refine ⟨b, v', h, hl, (World.cell?_of_block (a := ⟨b, 1, none⟩) (setRow_block w g cs b ?_)).trans hc, Flt.row hB hx hr⟩
    rintro rfl
    rw [hB.cell 1] at hc
    obtain ⟨z, _, rfl⟩ := cellsI_int hc
    obtain ⟨_, _, h3⟩ := hr.iface
    cases h3
theorem Rdr.row {w0 w : World} {b lo : Nat} {ok : Bool} {dv : Value} {zs : List Int} {pos g : Nat} {xs : List Int} {t : TypeId} (cs : Array Value) (h : Rdr w0 w b lo ok dv zs pos) (hg : b < g) (hB : Blk w g (cellsI xs) t) (hx : xs[0]? ≠ some 21) : Rdr w0 (w.setRow g cs) b lo ok dv zs pos := by
  have hb : (w.setRow g cs).heap[b]? = w.heap[b]? := setRow_block w g cs b (by omega)
  have hc : ∀ o', (w.setRow g cs).cell? ⟨b, o', none⟩ = w.cell? ⟨b, o', none⟩ := fun o' => World.cell?_of_block (a := ⟨b, o', none⟩) hb
  have hf : ∀ o', (w.setRow g cs).frozen? ⟨b, o', none⟩ = w.frozen? ⟨b, o', none⟩ := fun o' => World.frozen?_of_block (a := ⟨b, o', none⟩) hb
  obtain ⟨c1, c2, ev, c3, c4⟩ := h.ck
  refine ⟨⟨(hc 0).trans c1, (hf 1).trans c2, ev, (hc 1).trans c3, ?_⟩, (hc 2).trans h.data, (hc 3).trans h.at_, (hf 3).trans h.fr, below_setRow h.old (Nat.le_of_lt hg) _, h.size, h.rd, h.le, h.lo1, by simpa [World.setRow] using h.lo2⟩
  rcases c4 with c4 | ⟨c4, n, c5⟩
  · exact .inl c4
  · exact .inr ⟨c4, n, c5.row hB hx⟩

/-- How far a reader came that was ok at pos and had m bytes to read. -/
def Adv (ok : Bool) (zs : List Int) (pos m : Nat) (okr : Bool) (pr : Nat) : Prop :=
  (okr = true ∧ ok = true ∧ pos + m ≤ zs.length ∧ pr = pos + m) ∨ (okr = false ∧ ¬ (ok = true ∧ pos + m ≤ zs.length) ∧ pr ≤ pos + m)
theorem Adv.start (ok : Bool) (zs : List Int) (pos : Nat) (h : pos ≤ zs.length) : Adv ok zs pos 0 ok pos := by
  cases ok with
  | true => exact .inl ⟨rfl, rfl, h, rfl⟩
  | false => exact .inr ⟨rfl, (fun h => absurd h.1 (by decide)), by omega⟩
theorem Adv.step {ok okr : Bool} {zs : List Int} {pos m pr : Nat} {w0 w w' : World} {b lo : Nat} {dv : Value} {m' x : Nat} (h : Adv ok zs pos m okr pr) (hn : Numd w0 w w' b lo okr dv zs pr m' x) :
    ∃ ok2 p2, Rdr w0 w' b lo ok2 dv zs p2 ∧ Adv ok zs pos (m + m') ok2 p2 ∧ (ok2 = true → okr = true ∧ x = unle ((zs.drop (pos + m)).take m')) ∧ w.grownBy w' (some b) := by
  obtain ⟨hg, hn⟩ := hn
  rcases hn with ⟨ho, hle, hx, hr⟩ | ⟨hno, hx, hr⟩
  · rcases h with ⟨_, h2, h3, h4⟩ | ⟨h1, _, _⟩
    · subst h4
      exact ⟨true, _, hr, .inl ⟨rfl, h2, by omega, by omega⟩, fun _ => ⟨ho, hx⟩, hg⟩
    · rw [h1] at ho; cases ho
  · refine ⟨false, _, hr, .inr ⟨rfl, fun hh => ?_, ?_⟩, (fun h => absurd h (by decide)), hg⟩
    · rcases h with ⟨h1, h2, h3, h4⟩ | ⟨h1, h2, _⟩
      · exact hno ⟨h1, by omega⟩
      · exact h2 ⟨hh.1, by omega⟩
    · rcases h with ⟨h1, h2, h3, h4⟩ | ⟨h1, h2, h3⟩ <;> omega

/-- The words of four bytes from p on. -/
def wordsFrom (zs : List Int) (p n : Nat) : List Int := (List.range n).map fun i => ((unle ((zs.drop (p + 4 * i)).take 4) : Nat) : Int)
theorem wordsFrom_succ (zs : List Int) (p n : Nat) : wordsFrom zs p (n + 1) = wordsFrom zs p n ++ [((unle ((zs.drop (p + 4 * n)).take 4) : Nat) : Int)] := by simp [wordsFrom, List.range_succ]
theorem wordsFrom_len (zs : List Int) (p n : Nat) : (wordsFrom zs p n).length = n := by simp [wordsFrom]
theorem set_next (s : Int) (ds : List Int) (k : Nat) (hk : k < 14) (hd : ds.length = k) (x : Int) : (cellsI (s :: (ds ++ List.replicate (14 - k) 0))).setIfInBounds (1 + k) (.int .i64 x) = cellsI (s :: ((ds ++ [x]) ++ List.replicate (14 - (k + 1)) 0)) := by
  rw [cellsI_set]
  congr 1
  subst hd
  rw [Nat.add_comm, List.set_cons_succ]
  congr 1
  rw [List.set_append_right _ _ (Nat.le_refl _), Nat.sub_self, show 14 - ds.length = 14 - (ds.length + 1) + 1 from by omega, List.replicate_succ, List.set_cons_zero]
  simp
theorem cell_next (s : Int) (ds : List Int) (k : Nat) (hk : k < 14) (hd : ds.length = k) : (cellsI (s :: (ds ++ List.replicate (14 - k) 0)))[1 + k]? = some (.int .i64 0) := by
  subst hd
  rw [cellsI_get _ _ (by simp; omega), Nat.add_comm, List.getD_cons_succ]
  rw [List.getD, List.getElem?_append_right (Nat.le_refl _), Nat.sub_self]
  rw [List.getElem?_replicate, if_pos (by omega)]
  rfl

/-- What was read as a root from pos on. -/
def RootAt (zs : List Int) (pos : Nat) (s : Int) (ds : List Int) (p q : Int) : Prop :=
  s = wrap64 ((unle ((zs.drop pos).take 8) : Nat) : Int) ∧ ds ++ [p, q] = wordsFrom zs (pos + 8) 14

end Go.Proofs.YtplieplmhdfndaaGreatDoor

namespace Go.Proofs.YtplieplmhdfndaaGreatDoor
set_option linter.unusedVariables false
set_option linter.unusedSimpArgs false
open Go.RowKit

section
variable {P : Program}
theorem part_one (w : World) {e : TypeId} {k : IntKind} (he : P.underlying e = some (.int k)) {xs : Array Value} {off : Nat} {v : Value} (hx : xs[off]? = some v) : (part e xs off).run P w = .ok v w := by
  simp [part, isAgg, run_underlying he, hx]
theorem part_many (w : World) {t : TypeId} {d : TypeDesc} {i : TypeInfo} (hu : P.underlying t = some d) (hd : (match d with | .struct _ | .array _ _ => true | _ => false) = true) (hi : P.info? t = some i) (xs : Array Value) (off : Nat) :
    (part t xs off).run P w = .ok (.agg (xs.extract off (off + P.cellsOf t))) w := by
  cases d <;> simp at hd <;> simp [part, isAgg, run_underlying hu, run_sizeOf w hi]
theorem eqFields_cons (w : World) {d : Nat} {xs ys : Array Value} {f : Field} {fs : List Field} {a b : Value} {r r' : Bool} (hn : f.name ≠ "_") (h1 : (part f.type xs f.offset).run P w = .ok a w) (h2 : (part f.type ys f.offset).run P w = .ok b w)
    (h3 : (Op.equalIn d f.type a b).run P w = .ok r w) (h4 : (Op.eqFields d xs ys fs).run P w = .ok r' w) : (Op.eqFields d xs ys (f :: fs)).run P w = .ok (r && r') w := by
  simp only [Op.eqFields, hn, ne_eq, not_false_eq_true, if_true, Sem.run_bind, h1, h2, h3, Result.andThen_ok]
  cases r
  · simp
  · simpa using h4
theorem eqItems_cons (w : World) {d : Nat} {e : TypeId} {c : Nat} {xs ys : Array Value} {i : Nat} {is : List Nat} {a b : Value} {r r' : Bool} (h1 : (part e xs (i * c)).run P w = .ok a w) (h2 : (part e ys (i * c)).run P w = .ok b w)
    (h3 : (Op.equalIn d e a b).run P w = .ok r w) (h4 : (Op.eqItems d e c xs ys is).run P w = .ok r' w) : (Op.eqItems d e c xs ys (i :: is)).run P w = .ok (r && r') w := by
  simp only [Op.eqItems, Sem.run_bind, h1, h2, h3, Result.andThen_ok]
  cases r
  · simp
  · simpa using h4
/-- Two rows of integers, item by item. -/
theorem eqItems_ints (w : World) (d : Nat) {e : TypeId} (he : P.underlying e = some (.int .i64)) (xs ys : List Int) : ∀ (is : List Nat), (∀ i ∈ is, i < xs.length ∧ i < ys.length) →
    (Op.eqItems (d + 1) e 1 (cellsI xs) (cellsI ys) is).run P w = .ok (is.all fun i => xs.getD i 0 == ys.getD i 0) w
  | [], _ => by simp [Op.eqItems]
  | i :: is, h => by
    have hi := h i (by simp)
    exact eqItems_cons w (part_one w he (by rw [Nat.mul_one]; exact cellsI_get xs i hi.1)) (part_one w he (by rw [Nat.mul_one]; exact cellsI_get ys i hi.2)) (run_equalIn_int w d e .i64 .i64 _ _ he) (eqItems_ints w d he xs ys is (fun j hj => h j (by simp [hj])))

theorem wpList_eql {ops : Array Oper} {rest : List Oper} {o : Oper} {a : Act} {w : World} {Q : Exit → Act → World → Prop} (hgd : o.guard = none) (t u : TypeId) (x y : Operand) (ho : o.op = .binOp .eql t x y u)
    (cs ds : Array Value) (hx : a.eval x = .agg cs) (hy : a.eval y = .agg ds) (hm : P.eqGuardType P.depth t = false) (b : Bool) (hE : (Op.equalIn 10000 t (.agg cs) (.agg ds)).run P w = .ok b w)
    (h : wpList P ops Q rest (a.put o.dst (.bool b)) w) : wpList P ops Q (o :: rest) a w := by
  refine wpList_plain hgd fun K hK => ?_
  have hrun : (execOp a.eval o).run P w = .ok (.value (.bool b)) w := by
    simp [execOp, ho, hx, hy, run_eqGuard_agg w _ _ _ _ _ _ hm, run_eql_struct, hE, Result.andThen]
  unfold Oper.wp
  rw [hrun, Oper.upon_value]
  exact hK _ _ h
end

/-- The integers of an inode: the nine of its own, then its root's. -/
def inoI (ks : List Int) (s : Int) (ds : List Int) (p q : Int) : List Int := ks ++ rootI s ds p q
theorem inoI_len (ks : List Int) (s : Int) (ds : List Int) (p q : Int) (hk : ks.length = 9) (hd : ds.length = 12) : (inoI ks s ds p q).length = 24 := by
  unfold inoI
  rw [List.length_append, rootI_len s ds p q hd, hk]
theorem info24 : (Tryz.prog.info? 228).map (·.size) = some 24 := by kernel_rfl
theorem cellsT_int : Tryz.prog.cellsOf 3 = 1 := by kernel_rfl
theorem cellsT_12 : Tryz.prog.cellsOf 224 = 12 := by kernel_rfl
theorem cellsT_15 : Tryz.prog.cellsOf 226 = 15 := by kernel_rfl

def zeroB (l : List Int) : Bool := l.all fun x => x == 0
theorem zeroB_iff (l : List Int) : zeroB l = true ↔ ∀ x ∈ l, x = 0 := by simp [zeroB]

theorem structRoot : Tryz.prog.underlying 226 = some (.struct (Tryz.prog.fieldsOf 226)) := by unfold Program.fieldsOf; rw [Tryz.underlying226]
theorem structIno : Tryz.prog.underlying 228 = some (.struct (Tryz.prog.fieldsOf 228)) := by unfold Program.fieldsOf; rw [Tryz.underlying228]
theorem heldRoot : Tryz.prog.stoodInHeld 226 = false := by kernel_rfl
theorem heldIno : Tryz.prog.stoodInHeld 228 = false := by kernel_rfl
theorem guardIno : Tryz.prog.eqGuardType Tryz.prog.depth 228 = false := by kernel_rfl

theorem eqArr_zero (w : World) (d : Nat) (ds : List Int) (hd : ds.length = 12) : (Op.equalIn (d + 2) 224 (.agg (cellsI ds)) (.agg (cellsI (List.replicate 12 0)))).run Tryz.prog w = .ok (zeroB ds) w := by
  obtain ⟨i, hi⟩ : ∃ i, Tryz.prog.info? 3 = some i := info_of_underlying Tryz.underlying3
  rw [run_equalIn_array w (d + 1) _ _ Tryz.underlying224 hi, cellsT_int, eqItems_ints w d Tryz.underlying3 ds (List.replicate 12 0) (List.range 12) (by intro j hj; simp at hj ⊢; omega)]
  match ds, hd with
  | [d0, d1, d2, d3, d4, d5, d6, d7, d8, d9, d10, d11], _ => rfl

theorem ino_range (k0 k1 k2 k3 k4 k5 k6 k7 k8 s : Int) (ds : List Int) (p q : Int) (hd : ds.length = 12) {w : World} {b : Nat} {t : TypeId} (h : Blk w b (cellsI (inoI [k0, k1, k2, k3, k4, k5, k6, k7, k8] s ds p q)) t) : w.rangeAt b 9 ((rootI s ds p q).map (Value.int .i64)) := by
  have hr := h.range 9 15 (by rw [inoI_len _ _ _ _ _ rfl hd]; omega)
  have e : ((inoI [k0, k1, k2, k3, k4, k5, k6, k7, k8] s ds p q).drop 9).take 15 = rootI s ds p q := by
    have hl := rootI_len s ds p q hd
    simp only [inoI, List.drop_append, List.length_cons, List.length_nil, List.drop_succ_cons, List.drop_nil, List.nil_append, Nat.sub_self, List.drop_zero]
    exact List.take_of_length_le (by omega)
  rw [e] at hr
  exact hr

theorem ino_of_list (rs : List Int) (h : rs.length = 24) : ∃ k0 k1 k2 k3 k4 k5 k6 k7 k8 s ds p q, ds.length = 12 ∧ rs = inoI [k0, k1, k2, k3, k4, k5, k6, k7, k8] s ds p q := by
  match rs, h with
  | [k0, k1, k2, k3, k4, k5, k6, k7, k8, s, d0, d1, d2, d3, d4, d5, d6, d7, d8, d9, d10, d11, p, q], _ => exact ⟨k0, k1, k2, k3, k4, k5, k6, k7, k8, s, [d0, d1, d2, d3, d4, d5, d6, d7, d8, d9, d10, d11], p, q, rfl, rfl⟩

end Go.Proofs.YtplieplmhdfndaaGreatDoor

namespace Go.Proofs.YtplieplmhdfndaaGreatDoor
set_option linter.unusedVariables false
set_option linter.unusedSimpArgs false
open Go.RowKit

def ptrB (x n : Int) : Bool := decide (x = 0) || (decide (2 ≤ x) && decide (x < n))
end Go.Proofs.YtplieplmhdfndaaGreatDoor

namespace Go.Proofs.YtplieplmhdfndaaGreatDoor
set_option linter.unusedVariables false
set_option linter.unusedSimpArgs false
open Go.RowKit

def lst (i : Nat) : Int := if i = 13 then 140 else i
def okAt (B : Int) (i : Nat) (x : Int) : Bool := ptrB x 2048 && (decide (x = 0) || decide (lst i < B))
def allR (s : Int) (pts : List Int) (n : Nat) : Bool := (List.range n).all fun i => okAt ((s + 511) / 512) i (pts.getD i 0)
def rightR (s : Int) (ds : List Int) (p q : Int) : Bool := (decide (0 ≤ s) && decide (s ≤ 262144)) && allR s (ds ++ [p, q]) 14
theorem allR_succ (s : Int) (pts : List Int) (n : Nat) : allR s pts (n + 1) = (allR s pts n && okAt ((s + 511) / 512) n (pts.getD n 0)) := by simp [allR, List.range_succ]
theorem allR_bad (s : Int) (pts : List Int) (n k : Nat) (hk : k < n) (h : okAt ((s + 511) / 512) k (pts.getD k 0) = false) : allR s pts n = false := by
  unfold allR
  rw [List.all_eq_false]
  exact ⟨k, by simpa using hk, by rw [h]; simp⟩

theorem okT (s : Int) (k : Nat) (z L : Int) (hp : ptrB z 2048 = true) (hL : lst k = L) (h : (z != 0) = false ∨ L < (s + 512 - 1) / 512) : okAt ((s + 511) / 512) k z = true := by
  unfold okAt
  rw [hp, hL]
  have e : s + 512 - 1 = s + 511 := by omega
  rw [e] at h
  rcases h with h | h
  · simp at h; simp [h]
  · simp [h]
theorem okT0 (s : Int) (k : Nat) (z : Int) (hp : ptrB z 2048 = true) (h : z = 0) : okAt ((s + 511) / 512) k z = true := by
  unfold okAt
  rw [hp]
  simp [h]
theorem okF (s : Int) (k : Nat) (z L : Int) (hL : lst k = L) (h : (z != 0) = true ∧ (s + 512 - 1) / 512 ≤ L) : okAt ((s + 511) / 512) k z = false := by
  unfold okAt
  have e : s + 512 - 1 = s + 511 := by omega
  rw [e] at h
  rw [hL]
  have h1 : ¬ z = 0 := by simpa using h.1
  have h2 : ¬ L < (s + 511) / 512 := by omega
  simp [h1, h2]
theorem lst_cases (k : Nat) : (((k : Int) == 12) = true ∧ ((k : Int) == 13) = false ∧ lst k = 12) ∨ (((k : Int) == 12) = false ∧ ((k : Int) == 13) = true ∧ lst k = 140) ∨ (((k : Int) == 12) = false ∧ ((k : Int) == 13) = false ∧ lst k = (k : Int)) := by
  by_cases h12 : k = 12
  · subst h12; exact .inl ⟨rfl, rfl, rfl⟩
  · by_cases h13 : k = 13
    · subst h13; exact .inr (.inl ⟨rfl, rfl, rfl⟩)
    · refine .inr (.inr ⟨by simp; omega, by simp; omega, ?_⟩)
      unfold lst
      rw [if_neg h13]

end Go.Proofs.YtplieplmhdfndaaGreatDoor
