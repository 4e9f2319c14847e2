/- Marks in a list of log entries. -/
import Derived.Test.YthkoflpcinbgeaaZq46
import Derived.Laws.BytesArg
import Derived.BigQuiet
namespace Go.Proofs.Ythkoflpcinbgeaa
set_option linter.unusedVariables false
set_option linter.unusedSimpArgs false
open Go.RowKit

/-- The decimal signs of q, ahead of t; the text of a mark. -/
def digsL : Nat → Nat → ByteArray → ByteArray
  | 0, _, t => t
  | f + 1, q, t => if q = 0 then t else digsL f (q / 10) (strOfNums [48 + (q : Int) % 10] ++ t)
theorem digsL_zero (f : Nat) (t : ByteArray) : digsL f 0 t = t := by cases f <;> simp [digsL]
theorem digsL_step (f q : Nat) (t : ByteArray) (h : q ≠ 0) : digsL (f + 1) q t = digsL f (q / 10) (strOfNums [48 + (q : Int) % 10] ++ t) := by simp [digsL, h]
def mtL (m : Nat) : ByteArray := ⟨#[109]⟩ ++ digsL m m ⟨#[]⟩
set_option maxHeartbeats 1000000 in
theorem markTextL_any (m : Nat) (w : World) (h1 : 1 ≤ m) (h2 : m ≤ 4000000) :
    Calls Try.prog 22 #[.int .i64 (m : Int)] w fun e w' => e = .returned (.string (mtL m)) ∧ Below w.heap.size w w' := by
  go_enter Try.func22, Try.ntmps22
  go_wp2
  go_loopw [0, 3] (fun a t wr => ∃ (q f : Nat) (x : ByteArray), a = .int .i64 (q : Int) ∧ t = .string x ∧ q ≤ f ∧ digsL f q x = digsL m m ⟨#[]⟩ ∧ x.size + q ≤ m ∧ Below w.heap.size w wr) (fun a _ _ => (intOf a).toNat)
  case atStart => exact ⟨m, m, ⟨#[]⟩, rfl, rfl, Nat.le_refl _, rfl, by simp [ByteArray.size], Below.refl _ _⟩
  case round =>
    obtain ⟨q, f, x, rfl, rfl, hqf, hd, hx, hb⟩ := hrel
    have HB := hide (And.intro hb hd)
    have hsz := hb.size
    clear hb hd
    by_cases hq : 0 < q
    · obtain ⟨f', rfl⟩ : ∃ f', f = f' + 1 := ⟨f - 1, by omega⟩
      have HD := hide ((digsL_step f' q x (by omega)).symm.trans HB.out.2)
      have hcv : (convert 22 9 (.slice (some ⟨wr.heap.size, 0, none⟩) 1 1)).run Try.prog (wr.alloc (.cells #[.int .u8 (48 + (q : Int) % 10)] 5)) = .ok (.string (strOfNums [48 + (q : Int) % 10])) (wr.alloc (.cells #[.int .u8 (48 + (q : Int) % 10)] 5)) :=
        run_convert_bytes_arg _ 22 5 Try.underlying22 Try.underlying5 wr.heap.size 0 1 1 [48 + (q : Int) % 10] rfl (fun i hi => by
          obtain rfl : i = 0 := by simp at hi; omega
          simp) 9 Try.underlying9
      have hs1 : (strOfNums [48 + (q : Int) % 10]).size = 1 := strOfNums_size _
      generalize strOfNums [48 + (q : Int) % 10] = y at hcv HD hs1
      have hcat : ¬ 9223372036854775807 < y.size + x.size := by omega
      have HS := hide (show (y ++ x).size + q / 10 ≤ m from by rw [ByteArray.size_append]; omega)
      go_wp2_with fail
      go_roundw
      case rel => exact ⟨q / 10, f', y ++ x, by go_num, rfl, by omega, HD.out, HS.out, HB.out.1.alloc hsz _⟩
      case measure => simp [intOf]; omega
    · obtain rfl : q = 0 := by omega
      have HD := hide ((digsL_zero f x).symm.trans HB.out.2)
      go_wp2
      go_ret
      refine ⟨ret_val ?_, HB.out.1⟩
      unfold mtL
      rw [← HD.out]
      rfl
/-- The marks of an entry, from k on; n: how many bytes its Data has. -/
def mkEl (k n : Nat) : NE := ([.int .i64 (k : Int), .int .i64 ((k : Int) + 1), .int .i64 ((k : Int) + 2), .int .i64 ((k : Int) + 3), .int .i64 ((k : Int) + 4), .int .i64 ((k : Int) + 5), .string (mtL (k + 6)), .string (mtL (k + 7))], mk8 (k + 8) n)
def mkLs : Nat → List EntL → List NE
  | _, [] => []
  | k, e :: L => mkEl k e.ds.length :: mkLs (k + 8 + e.ds.length) L
def endL : Nat → List EntL → Nat
  | k, [] => k
  | k, e :: L => endL (k + 8 + e.ds.length) L
theorem mkLs_len : ∀ (L : List EntL) (k : Nat), (mkLs k L).length = L.length
  | [], _ => rfl
  | e :: L, k => by simp [mkLs, mkLs_len L]
theorem endL_snoc : ∀ (L : List EntL) (k : Nat) (e : EntL), endL k (L ++ [e]) = endL k L + 8 + e.ds.length
  | [], _, _ => rfl
  | x :: L, k, e => by simp only [List.cons_append, endL]; rw [endL_snoc L]
theorem mkLs_snoc : ∀ (L : List EntL) (k : Nat) (e : EntL), mkLs k (L ++ [e]) = mkLs k L ++ [mkEl (endL k L) e.ds.length]
  | [], _, _ => rfl
  | x :: L, k, e => by simp only [List.cons_append, mkLs, endL]; rw [mkLs_snoc L]
theorem endL_le : ∀ (L : List EntL) (k : Nat), k ≤ endL k L
  | [], _ => Nat.le_refl _
  | e :: L, k => Nat.le_trans (by omega) (endL_le L (k + 8 + e.ds.length))
theorem endL_take (L : List EntL) (k i : Nat) (e : EntL) (h : L[i]? = some e) : endL k (L.take (i + 1)) = endL k (L.take i) + 8 + e.ds.length := by
  rw [List.take_add_one, h]
  exact endL_snoc _ k e
theorem endL_mono (L : List EntL) (k i : Nat) : endL k (L.take i) ≤ endL k L := by
  have e : endL k L = endL (endL k (L.take i)) (L.drop i) := by
    have gen : ∀ (A B : List EntL) (k : Nat), endL k (A ++ B) = endL (endL k A) B := by
      intro A
      induction A with
      | nil => intro B k; rfl
      | cons x A ih => intro B k; simp only [List.cons_append, endL]; rw [ih]
    conv => lhs; rw [← List.take_append_drop i L]
    exact gen _ _ _
  rw [e]
  exact endL_le _ _
theorem mkL_step (L : List EntL) (k i : Nat) (e : EntL) (h : L[i]? = some e) : (mkLs k (L.take i) ++ (L.map neE).drop i).set i (mkEl (endL k (L.take i)) e.ds.length) = mkLs k (L.take (i + 1)) ++ (L.map neE).drop (i + 1) := by
  have hi : i < L.length := (List.getElem?_eq_some_iff.1 h).1
  have e1 : L.take (i + 1) = L.take i ++ [e] := by rw [List.take_add_one, h]; rfl
  have hlen : (mkLs k (L.take i)).length = i := by rw [mkLs_len]; simp; omega
  rw [e1, mkLs_snoc, List.drop_eq_getElem_cons (l := L.map neE) (by simpa using hi), List.set_append_right _ _ (by omega), hlen, Nat.sub_self, List.set_cons_zero, List.append_assoc]
  rfl
theorem mkL_at (L : List EntL) (k i : Nat) (e : EntL) (h : L[i]? = some e) : (mkLs k (L.take i) ++ (L.map neE).drop i)[i]? = some (neE e) := by
  have hi : i < L.length := (List.getElem?_eq_some_iff.1 h).1
  have hlen : (mkLs k (L.take i)).length = i := by rw [mkLs_len]; simp; omega
  rw [List.getElem?_append_right (by omega), hlen, Nat.sub_self, List.getElem?_drop, Nat.add_zero, List.getElem?_map, h]
  rfl
theorem mkLs_at : ∀ (L : List EntL) (k i : Nat) (e : EntL), L[i]? = some e → (mkLs k L)[i]? = some (mkEl (endL k (L.take i)) e.ds.length)
  | [], _, _, _, h => by simp at h
  | x :: L, k, 0, e, h => by
    simp at h
    subst h
    rfl
  | x :: L, k, i + 1, e, h => by
    simp only [mkLs, List.getElem?_cons_succ, List.take_succ_cons, endL]
    exact mkLs_at L _ i e (by simpa using h)
theorem endL_bd : ∀ (L : List EntL) (k : Nat), endL k L ≤ k + (L.map EntL.raw).flatten.length
  | [], k => by simp [endL]
  | e :: L, k => by
    have := endL_bd L (k + 8 + e.ds.length)
    simp only [endL, List.map_cons, List.flatten_cons, List.length_append]
    have := e.raw_len
    omega
theorem own_atL {W : World} {base g : Nat} {e : TypeId} {m : Nat} {v : Value} {L : List NE} {vs : List Value} (h : OwnN W base e m v L vs) {i : Nat} {l : NE} (hl : L[i]? = some l) (hv : v.ownBlock = some g) :
    ∃ u, vs[i]? = some u ∧ W.ownsRow base 5 1 u l.2.length (l.2.map (Value.int .u8)) ∧ ∀ (j : Nat) (x : Value), (l.1 ++ [u])[j]? = some x → W.cell? ⟨g, i * (m + 1) + j, none⟩ = some x ∧ W.frozen? ⟨g, i * (m + 1) + j, none⟩ = false := by
  have hi : i < L.length := (List.getElem?_eq_some_iff.1 hl).1
  obtain ⟨u, hu⟩ : ∃ x, vs[i]? = some x := ⟨_, List.getElem?_eq_getElem (by rw [h.len]; exact hi)⟩
  refine ⟨u, hu, h.dat i u l hu hl, fun j x hx => ?_⟩
  have hj : j < m + 1 := by
    have := (List.getElem?_eq_some_iff.1 hx).1
    simp [h.pre l (List.mem_of_getElem? hl)] at this
    omega
  have hc := (cellsN_get m vs L h.len h.pre i j u l hu hl hj).trans hx
  rcases h.row.2 with ⟨rfl, _⟩ | ⟨g', cap, cur, rfl, hb, hg, hn, hm, hs, ht⟩
  · cases hv
  · obtain rfl : g' = g := by simpa [Value.ownBlock] using hv
    have hB : Blk W g' cur e := hg
    refine ⟨?_, hB.frozen _⟩
    rw [hB.cell, ← Array.getElem?_toList]
    rw [← ht, List.getElem?_take] at hc
    split at hc
    · exact hc
    · cases hc
theorem own_blkL {W : World} {base : Nat} {e : TypeId} {m n : Nat} {a : Option Addr} {cap : Nat} {L : List NE} {vs : List Value} (h : OwnN W base e m (.slice a n cap) L vs) (hn : 0 < L.length) : ∃ g, a = some ⟨g, 0, none⟩ := by
  rcases h.row.2 with ⟨_, h0⟩ | ⟨g, cap', cur, e, _⟩
  · omega
  · injection e with e1 e2 e3
    exact ⟨g, e1⟩
theorem KpN.underL {w w' w2 : World} {v : Value} {vs : List Value} (h : KpN w w' v vs) (hb : Below w'.heap.size w' w2) : KpN w w2 v vs :=
  ⟨hb.os.trans h.os, hb.tape.trans h.tape, hb.output.trans h.output, Nat.le_trans h.size hb.size, fun b hbl h1 h2 => (hb.block b (Nat.lt_of_lt_of_le hbl h.size)).trans (h.block b hbl h1 h2)⟩
/-- One field of element k turned, whatever list stood there. -/
theorem OwnN.putL {W : World} {base g k j : Nat} {v : Value} {L : List NE} {vs : List Value} {l : NE} (h : OwnN W base 36 8 v (L.set k l) vs) (hk : k < L.length) (hv : v.ownBlock = some g) (x : Value) (hj : j < 8) : OwnN (W.setCell ⟨g, k * 9 + j, none⟩ x) base 36 8 v (L.set k (l.1.set j x, l.2)) vs := by
  have := h.field (by decide) k j l x (List.getElem?_set_self hk) hj hv
  rw [List.set_set] at this
  exact this
/-- The marks of the eight fields. -/
def mkl (kk : Nat) : List Value := [.int .i64 (kk : Int), .int .i64 ((kk : Int) + 1), .int .i64 ((kk : Int) + 2), .int .i64 ((kk : Int) + 3), .int .i64 ((kk : Int) + 4), .int .i64 ((kk : Int) + 5), .string (mtL (kk + 6)), .string (mtL (kk + 7))]
theorem mkl_int (kk m : Nat) (z : Int) (hz : z = (kk : Int) + m) (hm : m < 6) : (mkl kk)[m]? = some (.int .i64 z) := by
  subst hz
  match m, hm with
  | 0, _ => simp [mkl]
  | 1, _ => rfl
  | 2, _ => rfl
  | 3, _ => rfl
  | 4, _ => rfl
  | 5, _ => rfl
theorem mkl_six (kk m : Nat) (hm : m = 6) : (mkl kk)[m]? = some (.string (mtL (kk + 6))) := by subst hm; rfl
theorem mkl_seven (kk m : Nat) (hm : m = 7) : (mkl kk)[m]? = some (.string (mtL (kk + 7))) := by subst hm; rfl
theorem set_stage {A B : List Value} {m : Nat} {u : Value} (ha : A[m]? = some u) (hl : A.length = B.length) : (A.take m ++ B.drop m).set m u = A.take (m + 1) ++ B.drop (m + 1) := by
  have hm : m < A.length := (List.getElem?_eq_some_iff.1 ha).1
  have hlen : (A.take m).length = m := by rw [List.length_take]; omega
  rw [List.set_append_right _ _ (by omega), hlen, Nat.sub_self, List.drop_eq_getElem_cons (l := B) (by omega), List.set_cons_zero, List.take_add_one, ha, List.append_assoc]
  rfl
/-- Element k of a list: the first m of its fields are marked. -/
structure Mk8 (w W : World) (base g k kk n : Nat) (v : Value) (B : List Value) (es : List Int) (LL : List NE) (vs : List Value) (uu : Value) (m : Nat) : Prop where
  own : OwnN W base 36 8 v (LL.set k ((mkl kk).take m ++ B.drop m, es)) vs
  kp : KpN w W v vs
  blk : v.ownBlock = some g
  lt : k < LL.length
  bl : B.length = 8
  at_ : vs[k]? = some uu
theorem Mk8.cell8 {w W : World} {base g k kk n : Nat} {v : Value} {B : List Value} {es : List Int} {LL : List NE} {vs : List Value} {uu : Value} {m : Nat} (h : Mk8 w W base g k kk n v B es LL vs uu m) (hm : m ≤ 8) : W.cell? ⟨g, k * 9 + 8, none⟩ = some uu ∧ W.ownsRow base 5 1 uu es.length (es.map (Value.int .u8)) := by
  obtain ⟨u, hu, hd, hc⟩ := own_atL h.own (List.getElem?_set_self h.lt) h.blk
  obtain rfl : u = uu := Option.some.inj (hu.symm.trans h.at_)
  refine ⟨(hc 8 u ?_).1, hd⟩
  have hl : ((mkl kk).take m ++ B.drop m).length = 8 := by rw [List.length_append, List.length_take, List.length_drop, h.bl]; simp [mkl]; omega
  show (((mkl kk).take m ++ B.drop m) ++ [u])[8]? = some u
  rw [List.getElem?_append_right (by omega), hl]
  rfl
theorem Mk8.under {w W W' : World} {base g k kk n : Nat} {v : Value} {B : List Value} {es : List Int} {LL : List NE} {vs : List Value} {uu : Value} {m : Nat} (h : Mk8 w W base g k kk n v B es LL vs uu m) (hb : Below W.heap.size W W') : Mk8 w W' base g k kk n v B es LL vs uu m :=
  ⟨h.own.below hb, h.kp.underL hb, h.blk, h.lt, h.bl, h.at_⟩
theorem wpList_mk8 {P : Program} {ops : Array Oper} {rest : List Oper} {o : Oper} {a : Act} {W : World} {Q : Exit → Act → World → Prop} {w : World} {base g k kk n : Nat} {v : Value} {B : List Value} {es : List Int} {LL : List NE} {vs : List Value} {uu : Value} {m : Nat} (hM : Mk8 w W base g k kk n v B es LL vs uu m) (hgd : o.guard = none) (ty : TypeId) (x y : Operand) (ho : o.op = .store ty x y)
    (q : Nat) (hx : a.eval x = .pointer (some ⟨g, q, none⟩)) (u : Value) (hy : a.eval y = u) (hi : (P.info? ty).map (·.size) = some 1) (hq : q = k * 9 + m) (hm : m < 8) (hz : (mkl kk)[m]? = some u) (hcs : u.cells = #[u]) (h1 : u.oneCell' = true)
    (h : ∀ w2, Mk8 w w2 base g k kk n v B es LL vs uu (m + 1) → wpList P ops Q rest (a.put o.dst undef) w2) : wpList P ops Q (o :: rest) a W := by
  subst hq
  obtain ⟨u', hu, hd, hc⟩ := own_atL hM.own (List.getElem?_set_self hM.lt) hM.blk
  have hbl := hM.bl
  have hml : (mkl kk).length = 8 := rfl
  obtain ⟨x0, hx0⟩ : ∃ x0, B[m]? = some x0 := ⟨_, List.getElem?_eq_getElem (by omega)⟩
  have hcm := hc m x0 (by
    rw [List.getElem?_append_left (by rw [List.length_append, List.length_take, List.length_drop]; omega), List.getElem?_append_right (by rw [List.length_take]; omega), List.length_take, hml, Nat.min_eq_left (by omega), Nat.sub_self, List.getElem?_drop, Nat.add_zero]
    exact hx0)
  have hput := hM.own.putL (j := m) hM.lt hM.blk u hm
  simp only at hput
  rw [set_stage hz (by omega)] at hput
  refine wpList_plain hgd fun _ hK => ?_
  have hst : (storeVar ty ⟨g, k * 9 + m, none⟩ u).run P W = .ok () (W.setCell ⟨g, k * 9 + m, none⟩ u) := by
    have hrun := run_storeCells_cells (P := P) g (k * 9 + m) [u] 0 W (by intro j hj; simp at hj; subst hj; simpa using congrArg Option.isSome hcm.1) (by intro j hj; simp at hj; subst hj; simpa using hcm.2) (by intro v hv; simp at hv; subst hv; exact h1)
    cases hq : P.info? ty with
    | none => simp [hq] at hi
    | some i =>
      have hs : i.size = 1 := by simpa [hq] using hi
      simp [World.setCells] at hrun
      simp [storeVar, sizeOf, typeInfo, hq, hcs, hs, hrun]
  unfold Oper.wp execOp
  simp only [ho, hx, hy, Instr.storeAt, Instr.sureAddr, Sem.run_bind, Sem.run_pure, Result.andThen_ok, hst]
  exact hK _ _ (h _ ⟨hput, hM.kp.row (by rw [hM.blk]; exact set_grown _ g _ u), hM.blk, hM.lt, hM.bl, hM.at_⟩)
theorem infoI1L : (Try.prog.info? 3).map (·.size) = some 1 := by kernel_rfl
theorem infoS1L : (Try.prog.info? 9).map (·.size) = some 1 := by kernel_rfl
theorem markTextLZ (z : Int) (m : Nat) (w : World) (hz : z = (m : Int)) (h1 : 1 ≤ m) (h2 : m ≤ 4000000) :
    Calls Try.prog 22 #[.int .i64 z] w fun e w' => e = .returned (.string (mtL m)) ∧ Below w.heap.size w w' := by
  subst hz
  exact markTextL_any m w h1 h2
set_option maxRecDepth 100000 in
set_option maxHeartbeats 4000000 in
theorem markLES_any (v : Value) (base k0 : Nat) (P : List EntL) (vs : List Value) (w : World) (h : OwnN w base 36 8 v (P.map neE) vs) (h0 : 1 ≤ k0) (hk0 : endL k0 P ≤ 3000000) :
    Calls Try.prog 14 #[v, .int .i64 k0] w fun e w' => e = .returned (.int .i64 (endL k0 P : Nat)) ∧ OwnN w' base 36 8 v (mkLs k0 P) vs ∧ KpN w w' v vs := by
  obtain ⟨a, cap, rfl⟩ : ∃ a cap, v = .slice a P.length cap := by obtain ⟨a, cap, e⟩ := own_shape h.row; exact ⟨a, cap, by simpa using e⟩
  have hm : P.length ≤ 9223372036854775807 := by obtain ⟨a, cap, _, _, g1, g2⟩ := h.rd.row; unfold maxLen at g2; simp at g1; omega
  have HMo := hide (fun i => And.intro (endL_mono P k0 i) (endL_le (P.take i) k0))
  have H := hide h
  clear h
  go_enter Try.func14, Try.ntmps14
  go_wp2
  go_loopw [1, 5] (fun x i wr => ∃ k : Nat, k ≤ P.length ∧ i = .int .i64 k ∧ x = .int .i64 (endL k0 (P.take k) : Nat) ∧ OwnN wr base 36 8 (.slice a P.length cap) (mkLs k0 (P.take k) ++ (P.map neE).drop k) vs ∧ KpN w wr (.slice a P.length cap) vs) (fun _ i _ => P.length - (intOf i).toNat)
  case atStart => exact ⟨0, Nat.zero_le _, rfl, by simp [endL], by simpa [mkLs] using H.out, KpN.refl _ _ _⟩
  case round =>
    clear H
    obtain ⟨k, hk, rfl, rfl, ho, hkp⟩ := hrel
    by_cases hlt : k < P.length
    · obtain ⟨p, hp⟩ : ∃ p, P[k]? = some p := ⟨_, List.getElem?_eq_getElem hlt⟩
      have hE := endL_take P k0 k _ hp
      have hMx := (HMo.out (k + 1)).1
      have hM0 := (HMo.out k).2
      rw [hE] at hMx
      have hST := mkL_step P k0 k _ hp
      have hAT := mkL_at P k0 k _ hp
      obtain ⟨es, hes⟩ : ∃ es, es = p.ds := ⟨_, rfl⟩
      obtain ⟨g, rfl⟩ := own_blkL ho (by rw [List.length_append, mkLs_len]; simp; omega)
      generalize endL k0 (P.take k) = kk at hE hMx hM0 hST ⊢
      generalize hLL : mkLs k0 (P.take k) ++ (P.map neE).drop k = LL at ho hST hAT
      have hkL : k < LL.length := (List.getElem?_eq_some_iff.1 hAT).1
      rw [← hes] at hE hMx hST
      obtain ⟨uu, huu, hdd, _⟩ := own_atL ho hAT (g := g) rfl
      have hM8 : Mk8 w wr base g k kk es.length (.slice (some ⟨g, 0, none⟩) P.length cap) (neE p).1 es LL vs uu 0 := by
        refine ⟨?_, hkp, rfl, hkL, rfl, huu⟩
        rw [List.take_zero, List.nil_append, List.drop_zero, hes, show LL.set k ((neE p).1, p.ds) = LL from List.ext_getElem? (fun i => by
          rw [List.getElem?_set]
          by_cases hik : k = i
          · subst hik
            rw [if_pos rfl, if_pos hkL, hAT]
            rfl
          · rw [if_neg hik])]
        exact ho
      obtain ⟨au, cu, hau⟩ := own_shape hdd
      rw [show (neE p).2 = es from hes.symm] at hau
      subst hau
      have HM := hide hM8
      have HU := hide (And.intro hST (And.intro hE hkL))
      clear hM8 huu hdd ho hkp hST hAT hE hp hLL HMo hes
      go_wp2_with (first
        | (refine wpList_mk8 HM.out rfl 3 _ _ rfl _ rfl _ rfl infoI1L (by omega) (by omega) (mkl_int _ _ _ (by omega) (by omega)) rfl rfl ?_; intro w2 h2; have HM := hide h2; clear h2)
        | (refine wpList_mk8 HM.out rfl 9 _ _ rfl _ rfl _ rfl infoS1L (by omega) (by omega) (mkl_six _ _ (by omega)) rfl rfl ?_; intro w2 h2; have HM := hide h2; clear h2)
        | (refine wpList_mk8 HM.out rfl 9 _ _ rfl _ rfl _ rfl infoS1L (by omega) (by omega) (mkl_seven _ _ (by omega)) rfl rfl ?_; intro w2 h2; have HM := hide h2; have c8 := (h2.cell8 (by omega)).1; clear h2)
        | (go_at_call 22; refine (markTextLZ _ (kk + 6) _ (by omega) (by omega) (by omega)).mono ?_; rintro e w3 ⟨rfl, b3⟩; have HM := hide (HM.out.under b3); clear b3)
        | (go_at_call 22; refine (markTextLZ _ (kk + 7) _ (by omega) (by omega) (by omega)).mono ?_; rintro e w3 ⟨rfl, b3⟩; have HM := hide (HM.out.under b3); clear b3)
        | (go_at_call 9; fail))
      have h8 : Mk8 w w2 base g k kk es.length (.slice (some ⟨g, 0, none⟩) P.length cap) (neE p).1 es LL vs (.slice au es.length cu) 8 := HM.out
      have H8 := hide h8
      have e8 : (kk : Int) + 1 + 1 + 1 + 1 + 1 + 1 + 1 + 1 = ((kk + 8 : Nat) : Int) := by omega
      rw [e8]
      clear HM c8 h8 e8
      refine (markByteS_any (.slice au es.length cu) base es.length (kk + 8) _ _ (H8.out.cell8 (Nat.le_refl _)).2 (by omega) (by omega)).mono ?_
      rintro e w3 ⟨he3, o3, g3⟩
      subst he3
      have O3 := hide (H8.out.own.data (by decide) k _ _ (mk8 (kk + 8) es.length) H8.out.at_ (List.getElem?_set_self H8.out.lt) (by rw [mk8_len]; exact o3) g3)
      have K4 := hide (H8.out.kp.dat _ (List.mem_of_getElem? H8.out.at_) g3)
      clear o3 g3 H8
      go_wp2
      go_roundw
      case rel =>
        refine ⟨k + 1, by omega, by go_num, ?_, ?_, K4.out⟩
        · rw [HU.out.2.1]
          go_num
        · rw [← HU.out.1]
          have := O3.out
          rw [List.set_set] at this
          exact this
      case measure => simp [intOf]; omega
    · obtain rfl : k = P.length := by omega
      have HF := hide (show OwnN wr base 36 8 (.slice a P.length cap) (mkLs k0 P) vs from by
        have := ho
        rw [List.take_of_length_le (by simp), List.drop_of_length_le (by simp), List.append_nil] at this
        exact this)
      have HE := hide (show endL k0 (P.take P.length) = endL k0 P by rw [List.take_of_length_le (by simp)])
      have HK := hide hkp
      rw [HE.out]
      clear ho hkp
      go_wp2
      go_ret
      exact ⟨rfl, HF.out, HK.out⟩
end Go.Proofs.Ythkoflpcinbgeaa
