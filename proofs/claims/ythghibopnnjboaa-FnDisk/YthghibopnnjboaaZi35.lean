/- Inodes by value: twenty-four integers; the comparison with the empty one. Settling: sectors compared, and what becomes of the two images. -/
import Derived.Test.YthghibopnnjboaaZi04
import Derived.ChangeKeysEq
import Derived.Test.YthghibopnnjboaaZi34
namespace Go.Proofs.Ythghibopnnjboaa
set_option linter.unusedVariables false
set_option linter.unusedSimpArgs false
open Go.RowKit

section
variable {P : Program}
theorem part_one (w : World) {e : TypeId} {k : IntKind} (he : P.underlying e = some (.int k)) {xs : Array Value} {off : Nat} {v : Value} (hx : xs[off]? = some v) : (part e xs off).run P w = .ok v w := by
  simp [part, isAgg, run_underlying he, hx]
theorem part_many (w : World) {t : TypeId} {d : TypeDesc} {i : TypeInfo} (hu : P.underlying t = some d) (hd : (match d with | .struct _ | .array _ _ => true | _ => false) = true) (hi : P.info? t = some i) (xs : Array Value) (off : Nat) :
    (part t xs off).run P w = .ok (.agg (xs.extract off (off + P.cellsOf t))) w := by
  cases d <;> simp at hd <;> simp [part, isAgg, run_underlying hu, run_sizeOf w hi]
theorem eqFields_cons (w : World) {d : Nat} {xs ys : Array Value} {f : Field} {fs : List Field} {a b : Value} {r r' : Bool} (hn : f.name ≠ "_") (h1 : (part f.type xs f.offset).run P w = .ok a w) (h2 : (part f.type ys f.offset).run P w = .ok b w)
    (h3 : (Op.equalIn d f.type a b).run P w = .ok r w) (h4 : (Op.eqFields d xs ys fs).run P w = .ok r' w) : (Op.eqFields d xs ys (f :: fs)).run P w = .ok (r && r') w := by
  simp only [Op.eqFields, hn, ne_eq, not_false_eq_true, if_true, Sem.run_bind, h1, h2, h3, Result.andThen_ok]
  cases r
  · simp
  · simpa using h4
theorem eqItems_cons (w : World) {d : Nat} {e : TypeId} {c : Nat} {xs ys : Array Value} {i : Nat} {is : List Nat} {a b : Value} {r r' : Bool} (h1 : (part e xs (i * c)).run P w = .ok a w) (h2 : (part e ys (i * c)).run P w = .ok b w)
    (h3 : (Op.equalIn d e a b).run P w = .ok r w) (h4 : (Op.eqItems d e c xs ys is).run P w = .ok r' w) : (Op.eqItems d e c xs ys (i :: is)).run P w = .ok (r && r') w := by
  simp only [Op.eqItems, Sem.run_bind, h1, h2, h3, Result.andThen_ok]
  cases r
  · simp
  · simpa using h4
/-- Two rows of integers, item by item. -/
theorem eqItems_ints (w : World) (d : Nat) {e : TypeId} (he : P.underlying e = some (.int .i64)) (xs ys : List Int) : ∀ (is : List Nat), (∀ i ∈ is, i < xs.length ∧ i < ys.length) →
    (Op.eqItems (d + 1) e 1 (cellsI xs) (cellsI ys) is).run P w = .ok (is.all fun i => xs.getD i 0 == ys.getD i 0) w
  | [], _ => by simp [Op.eqItems]
  | i :: is, h => by
    have hi := h i (by simp)
    exact eqItems_cons w (part_one w he (by rw [Nat.mul_one]; exact cellsI_get xs i hi.1)) (part_one w he (by rw [Nat.mul_one]; exact cellsI_get ys i hi.2)) (run_equalIn_int w d e .i64 .i64 _ _ he) (eqItems_ints w d he xs ys is (fun j hj => h j (by simp [hj])))

theorem wpList_eql {ops : Array Oper} {rest : List Oper} {o : Oper} {a : Act} {w : World} {Q : Exit → Act → World → Prop} (hgd : o.guard = none) (t u : TypeId) (x y : Operand) (ho : o.op = .binOp .eql t x y u)
    (cs ds : Array Value) (hx : a.eval x = .agg cs) (hy : a.eval y = .agg ds) (hm : P.eqGuardType P.depth t = false) (b : Bool) (hE : (Op.equalIn 10000 t (.agg cs) (.agg ds)).run P w = .ok b w)
    (h : wpList P ops Q rest (a.put o.dst (.bool b)) w) : wpList P ops Q (o :: rest) a w := by
  refine wpList_plain hgd fun K hK => ?_
  have hrun : (execOp a.eval o).run P w = .ok (.value (.bool b)) w := by
    simp [execOp, ho, hx, hy, run_eqGuard_agg w _ _ _ _ _ _ hm, run_eql_struct, hE, Result.andThen]
  unfold Oper.wp
  rw [hrun, Oper.upon_value]
  exact hK _ _ h
end

/-- The integers of an inode: the nine of its own, then its root's. -/
def inoI (ks : List Int) (s : Int) (ds : List Int) (p q : Int) : List Int := ks ++ rootI s ds p q
theorem inoI_len (ks : List Int) (s : Int) (ds : List Int) (p q : Int) (hk : ks.length = 9) (hd : ds.length = 12) : (inoI ks s ds p q).length = 24 := by
  unfold inoI
  rw [List.length_append, rootI_len s ds p q hd, hk]
theorem cellsT_int : Try.prog.cellsOf 3 = 1 := by kernel_rfl
def zeroB (l : List Int) : Bool := l.all fun x => x == 0
theorem zeroB_iff (l : List Int) : zeroB l = true ↔ ∀ x ∈ l, x = 0 := by simp [zeroB]

theorem ino_range (k0 k1 k2 k3 k4 k5 k6 k7 k8 s : Int) (ds : List Int) (p q : Int) (hd : ds.length = 12) {w : World} {b : Nat} {t : TypeId} (h : Blk w b (cellsI (inoI [k0, k1, k2, k3, k4, k5, k6, k7, k8] s ds p q)) t) : w.rangeAt b 9 ((rootI s ds p q).map (Value.int .i64)) := by
  have hr := h.range 9 15 (by rw [inoI_len _ _ _ _ _ rfl hd]; omega)
  have e : ((inoI [k0, k1, k2, k3, k4, k5, k6, k7, k8] s ds p q).drop 9).take 15 = rootI s ds p q := by
    have hl := rootI_len s ds p q hd
    simp only [inoI, List.drop_append, List.length_cons, List.length_nil, List.drop_succ_cons, List.drop_nil, List.nil_append, Nat.sub_self, List.drop_zero]
    exact List.take_of_length_le (by omega)
  rw [e] at hr
  exact hr

theorem ino_of_list (rs : List Int) (h : rs.length = 24) : ∃ k0 k1 k2 k3 k4 k5 k6 k7 k8 s ds p q, ds.length = 12 ∧ rs = inoI [k0, k1, k2, k3, k4, k5, k6, k7, k8] s ds p q := by
  match rs, h with
  | [k0, k1, k2, k3, k4, k5, k6, k7, k8, s, d0, d1, d2, d3, d4, d5, d6, d7, d8, d9, d10, d11, p, q], _ => exact ⟨k0, k1, k2, k3, k4, k5, k6, k7, k8, s, [d0, d1, d2, d3, d4, d5, d6, d7, d8, d9, d10, d11], p, q, rfl, rfl⟩

end Go.Proofs.Ythghibopnnjboaa

namespace Go.Proofs.Ythghibopnnjboaa
set_option linter.unusedVariables false
set_option linter.unusedSimpArgs false
open Go.RowKit

def cellsK (xs : List Int) : Array Value := (xs.map (Value.int .u8)).toArray
theorem cellsOfK : Try.prog.cellsOf 5 = 1 := by kernel_rfl
theorem guardSec : Try.prog.eqGuardType Try.prog.depth 76 = false := by kernel_rfl
theorem cellsK_get (xs : List Int) (i : Nat) (h : i < xs.length) : (cellsK xs)[i]? = some (.int .u8 (xs.getD i 0)) := by
  simp [cellsK, List.getD, h]
theorem eqItems_K (w : World) (d : Nat) (xs ys : List Int) : ∀ (is : List Nat), (∀ i ∈ is, i < xs.length ∧ i < ys.length) →
    (Op.eqItems (d + 1) 5 1 (cellsK xs) (cellsK ys) is).run Try.prog w = .ok (is.all fun i => xs.getD i 0 == ys.getD i 0) w
  | [], _ => by simp [Op.eqItems]
  | i :: is, h => by
    have hi := h i (by simp)
    exact eqItems_cons w (part_one w Try.underlying5 (by rw [Nat.mul_one]; exact cellsK_get xs i hi.1)) (part_one w Try.underlying5 (by rw [Nat.mul_one]; exact cellsK_get ys i hi.2)) (run_equalIn_int w d 5 .u8 .u8 _ _ Try.underlying5) (eqItems_K w d xs ys is (fun j hj => h j (by simp [hj])))
theorem all128 (xs ys : List Int) (hx : xs.length = 128) (hy : ys.length = 128) : ((List.range 128).all fun i => xs.getD i 0 == ys.getD i 0) = decide (xs = ys) := by
  rw [Bool.eq_iff_iff]
  simp only [List.all_eq_true, List.mem_range, beq_iff_eq, decide_eq_true_eq]
  constructor
  · intro h
    apply List.ext_getElem (by omega)
    intro i h1 h2
    have := h i (by omega)
    simpa [List.getD, h1, h2] using this
  · rintro rfl i _
    rfl
theorem eqSec (w : World) (xs ys : List Int) (hx : xs.length = 128) (hy : ys.length = 128) : (Op.equalIn 10000 76 (.agg (cellsK xs)) (.agg (cellsK ys))).run Try.prog w = .ok (decide (xs = ys)) w := by
  obtain ⟨i0, hi, hz0, hz1, hz2⟩ := info_parts infoU8
  rw [run_equalIn_array w 9999 _ _ Try.underlying76 hi, cellsOfK, eqItems_K w 9998 xs ys (List.range 128) (by intro i hi; simp at hi; omega), all128 xs ys hx hy]
theorem yieldsIf_neqK {P : Program} {ops : Array Oper} {S : World → Prop} {o : Oper} {a : Act} (hw : Region.wanted o (yielded ops a.tmps) = true) (t u : TypeId) (x y : Operand) (ho : o.op = .binOp .neq t x y u)
    (cs ds : Array Value) (hx : a.eval x = .agg cs) (hy : a.eval y = .agg ds) (hm : P.eqGuardType P.depth t = false) (b : Bool) (hE : ∀ w, (Op.equalIn 10000 t (.agg cs) (.agg ds)).run P w = .ok b w) : YieldsIf P ops S o (.bool (!b)) a :=
  .inl ⟨hw, fun w hw' => by simp [execOp, ho, hx, hy, run_eqGuard_agg w _ _ _ _ _ _ hm, run_neq_struct, hE w, Result.andThen]⟩
/-- The first i cached writes that survive, by any choice. -/
def keptP (kp : Nat → Bool) (C : List (Nat × List Int)) : Nat → List (Nat × List Int)
  | 0 => []
  | i + 1 => match C[i]? with
    | some c => if kp i = true then keptP kp C i ++ [c] else keptP kp C i
    | none => keptP kp C i
theorem keptP_yes {kp : Nat → Bool} {C : List (Nat × List Int)} {i : Nat} {c : Nat × List Int} (h : C[i]? = some c) (hk : kp i = true) : keptP kp C (i + 1) = keptP kp C i ++ [c] := by
  rw [keptP, h]
  simp [hk]
theorem keptP_no {kp : Nat → Bool} {C : List (Nat × List Int)} {i : Nat} {c : Nat × List Int} (h : C[i]? = some c) (hk : kp i = false) : keptP kp C (i + 1) = keptP kp C i := by
  rw [keptP, h]
  simp [hk]
theorem keptP_mem (kp : Nat → Bool) (C : List (Nat × List Int)) : ∀ i, ∀ c ∈ keptP kp C i, c ∈ C
  | 0, c, h => by cases h
  | i + 1, c, h => by
    rw [keptP] at h
    split at h
    · rename_i x hx
      split at h
      · rcases List.mem_append.1 h with h | h
        · exact keptP_mem kp C i c h
        · rw [List.mem_singleton.1 h]; exact List.mem_of_getElem? hx
      · exact keptP_mem kp C i c h
    · exact keptP_mem kp C i c h
theorem keptP_by (ch : List Int) (C : List (Nat × List Int)) : ∀ i, byC (keptP (keeps ch) C i) = keptTo ch (byC C) i
  | 0 => rfl
  | i + 1 => by
    rw [keptP, keptTo]
    have hb : (byC C)[i]? = (C[i]?).map fun c => (c.1 * 128, c.2) := by unfold byC; rw [List.getElem?_map]
    rw [hb]
    cases h : C[i]? with
    | none => exact keptP_by ch C i
    | some c =>
      simp only [Option.map_some]
      split
      · rw [byC_snoc, keptP_by ch C i]
      · exact keptP_by ch C i
theorem keptP_all (C : List (Nat × List Int)) : ∀ i, keptP (fun _ => true) C i = C.take i
  | 0 => by simp [keptP]
  | i + 1 => by
    rw [keptP, keptP_all C i]
    cases h : C[i]? with
    | none => rw [List.take_add_one, h]; simp
    | some c => rw [List.take_add_one, h]; simp
/-- Sector q of an image. -/
def secZ (Z : List Int) (q : Nat) : List Int := (Z.drop (q * 128)).take 128
/-- What is seen, with the sectors of these writes made what is safe. -/
def fixE (F1 E : List Int) (C : List (Nat × List Int)) : List Int := C.foldl (fun E c => splice E (c.1 * 128) (secZ F1 c.1)) E
theorem secZ_len {Z : List Int} {n q : Nat} (hl : Z.length = n * 128) (hq : q < n) : (secZ Z q).length = 128 := part_len hl hq
theorem secZ_get {Z : List Int} {q i : Nat} (h1 : q * 128 ≤ i) (h2 : i < q * 128 + 128) : (secZ Z q)[i - q * 128]? = Z[i]? := by
  unfold secZ
  rw [List.getElem?_take, if_pos (by omega), List.getElem?_drop]
  congr 1
  omega
theorem fix_len {n : Nat} {F1 : List Int} (hF : F1.length = n * 128) : ∀ (C : List (Nat × List Int)) (E : List Int), E.length = n * 128 → (∀ c ∈ C, c.1 < n) → (fixE F1 E C).length = n * 128
  | [], E, hE, _ => hE
  | c :: C, E, hE, h => by
    have hc := h c (by simp)
    have h1 : (splice E (c.1 * 128) (secZ F1 c.1)).length = n * 128 := by rw [length_splice _ _ _ (by rw [secZ_len hF hc, hE]; omega), hE]
    exact fix_len hF C _ h1 (fun x hx => h x (by simp [hx]))
theorem fix_get {n : Nat} {F1 : List Int} (hF : F1.length = n * 128) (i : Nat) : ∀ (C : List (Nat × List Int)) (E : List Int), E.length = n * 128 → (∀ c ∈ C, c.1 < n) → (F1[i]? = E[i]? ∨ ∃ c ∈ C, c.1 = i / 128) → (fixE F1 E C)[i]? = F1[i]?
  | [], E, hE, _, h => by
    rcases h with h | ⟨c, hc, _⟩
    · exact h.symm
    · cases hc
  | c :: C, E, hE, hn, h => by
    have hc := hn c (by simp)
    have hsl : (secZ F1 c.1).length = 128 := secZ_len hF hc
    have h1 : (splice E (c.1 * 128) (secZ F1 c.1)).length = n * 128 := by rw [length_splice _ _ _ (by rw [hsl, hE]; omega), hE]
    refine fix_get hF i C _ h1 (fun x hx => hn x (by simp [hx])) ?_
    rw [splice_getG _ _ _ _ (by rw [hsl, hE]; omega), hsl]
    by_cases hq : c.1 = i / 128
    · left
      rw [if_neg (by omega), if_pos (by omega)]
      exact (secZ_get (by omega) (by omega)).symm
    · rcases h with h | ⟨x, hx, hx2⟩
      · left
        rw [h]
        by_cases h0 : i < c.1 * 128
        · rw [if_pos h0]
        · rw [if_neg h0, if_neg (by omega)]
      · rcases List.mem_cons.1 hx with e | hx
        · rw [e] at hx2; exact absurd hx2 hq
        · exact .inr ⟨x, hx, hx2⟩
theorem mk_get {n : Nat} (i : Nat) : ∀ (C : List (Nat × List Int)) (F : List Int), F.length = n * 128 → (∀ c ∈ C, c.1 < n ∧ c.2.length = 128) → (∀ c ∈ C, c.1 ≠ i / 128) → (mkW F (byC C))[i]? = F[i]?
  | [], F, _, _, _ => rfl
  | c :: C, F, hF, h, hne => by
    have hc := h c (by simp)
    have h1 : (splice F (c.1 * 128) c.2).length = n * 128 := by rw [length_splice _ _ _ (by rw [hc.2, hF]; omega), hF]
    have h2 := mk_get i C (splice F (c.1 * 128) c.2) h1 (fun x hx => h x (by simp [hx])) (fun x hx => hne x (by simp [hx]))
    have h3 : mkW F (byC (c :: C)) = mkW (splice F (c.1 * 128) c.2) (byC C) := rfl
    rw [h3, h2, splice_getG _ _ _ _ (by rw [hc.2, hF]; omega), hc.2]
    have := hne c (by simp)
    by_cases h0 : i < c.1 * 128
    · rw [if_pos h0]
    · rw [if_neg h0, if_neg (by omega)]
theorem fix_all {n : Nat} {F : List Int} {C K : List (Nat × List Int)} (hF : F.length = n * 128) (hC : ∀ c ∈ C, c.1 < n ∧ c.2.length = 128) (hK : ∀ c ∈ K, c ∈ C) : fixE (mkW F (byC K)) (mkW F (byC C)) C = mkW F (byC K) := by
  have hlen : ∀ L : List (Nat × List Int), (∀ c ∈ L, c ∈ C) → (mkW F (byC L)).length = n * 128 := fun L hL => by
    rw [mkW_len _ _ (fun x hx => by
      obtain ⟨c, hc, rfl⟩ := List.mem_map.1 hx
      have := hC c (hL c hc)
      show c.1 * 128 + c.2.length ≤ _
      rw [this.2, hF]
      omega), hF]
  apply List.ext_getElem?
  intro i
  refine fix_get (hlen K hK) i C _ (hlen C (fun c hc => hc)) (fun c hc => (hC c hc).1) ?_
  by_cases h : ∃ c ∈ C, c.1 = i / 128
  · exact .inr h
  · left
    have hne : ∀ c ∈ C, c.1 ≠ i / 128 := fun c hc e => h ⟨c, hc, e⟩
    rw [mk_get i K F hF (fun c hc => hC c (hK c hc)) (fun c hc => hne c (hK c hc)), mk_get i C F hF hC hne]
theorem fix_snoc (F1 E : List Int) (C : List (Nat × List Int)) (i : Nat) (c : Nat × List Int) (h : C[i]? = some c) : fixE F1 E (C.take (i + 1)) = splice (fixE F1 E (C.take i)) (c.1 * 128) (secZ F1 c.1) := by
  rw [List.take_add_one, h]
  unfold fixE
  rw [List.foldl_append]
  rfl
theorem splice_same {n q : Nat} {E P : List Int} (hE : E.length = n * 128) (hq : q < n) (h : secZ E q = P) : splice E (q * 128) P = E := by
  have hl : P.length = 128 := by rw [← h]; exact secZ_len hE hq
  apply List.ext_getElem?
  intro i
  rw [splice_getG _ _ _ _ (by rw [hl, hE]; omega), hl]
  by_cases h0 : i < q * 128
  · rw [if_pos h0]
  · rw [if_neg h0]
    by_cases h1 : i < q * 128 + 128
    · rw [if_pos h1, ← h]
      exact secZ_get (by omega) h1
    · rw [if_neg h1]
end Go.Proofs.Ythghibopnnjboaa
