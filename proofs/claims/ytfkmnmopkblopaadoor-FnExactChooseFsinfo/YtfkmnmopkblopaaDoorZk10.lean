/- Inodes by value: twenty-four integers; the comparison with the empty one. The model's look at a root: l02Pointer, l02Pointers, l02Root. The model's look at a root, whole: l02Root; its bytes: l02RootBytes; EncodeRoot. -/
import Derived.Test.YtfkmnmopkblopaaDoorZk08
import Derived.ChangeKeysEq
import Derived.Test.YtfkmnmopkblopaaDoorZk05
import Derived.Test.YtfkmnmopkblopaaDoorZk06
import Derived.Test.YtfkmnmopkblopaaDoorZk03
namespace Go.Proofs.YtfkmnmopkblopaaDoor
set_option linter.unusedVariables false
set_option linter.unusedSimpArgs false
open Go.RowKit

section
variable {P : Program}
theorem part_one (w : World) {e : TypeId} {k : IntKind} (he : P.underlying e = some (.int k)) {xs : Array Value} {off : Nat} {v : Value} (hx : xs[off]? = some v) : (part e xs off).run P w = .ok v w := by
  simp [part, isAgg, run_underlying he, hx]
theorem part_many (w : World) {t : TypeId} {d : TypeDesc} {i : TypeInfo} (hu : P.underlying t = some d) (hd : (match d with | .struct _ | .array _ _ => true | _ => false) = true) (hi : P.info? t = some i) (xs : Array Value) (off : Nat) :
    (part t xs off).run P w = .ok (.agg (xs.extract off (off + P.cellsOf t))) w := by
  cases d <;> simp at hd <;> simp [part, isAgg, run_underlying hu, run_sizeOf w hi]
theorem eqFields_cons (w : World) {d : Nat} {xs ys : Array Value} {f : Field} {fs : List Field} {a b : Value} {r r' : Bool} (hn : f.name ≠ "_") (h1 : (part f.type xs f.offset).run P w = .ok a w) (h2 : (part f.type ys f.offset).run P w = .ok b w)
    (h3 : (Op.equalIn d f.type a b).run P w = .ok r w) (h4 : (Op.eqFields d xs ys fs).run P w = .ok r' w) : (Op.eqFields d xs ys (f :: fs)).run P w = .ok (r && r') w := by
  simp only [Op.eqFields, hn, ne_eq, not_false_eq_true, if_true, Sem.run_bind, h1, h2, h3, Result.andThen_ok]
  cases r
  · simp
  · simpa using h4
theorem eqItems_cons (w : World) {d : Nat} {e : TypeId} {c : Nat} {xs ys : Array Value} {i : Nat} {is : List Nat} {a b : Value} {r r' : Bool} (h1 : (part e xs (i * c)).run P w = .ok a w) (h2 : (part e ys (i * c)).run P w = .ok b w)
    (h3 : (Op.equalIn d e a b).run P w = .ok r w) (h4 : (Op.eqItems d e c xs ys is).run P w = .ok r' w) : (Op.eqItems d e c xs ys (i :: is)).run P w = .ok (r && r') w := by
  simp only [Op.eqItems, Sem.run_bind, h1, h2, h3, Result.andThen_ok]
  cases r
  · simp
  · simpa using h4
/-- Two rows of integers, item by item. -/
theorem eqItems_ints (w : World) (d : Nat) {e : TypeId} (he : P.underlying e = some (.int .i64)) (xs ys : List Int) : ∀ (is : List Nat), (∀ i ∈ is, i < xs.length ∧ i < ys.length) →
    (Op.eqItems (d + 1) e 1 (cellsI xs) (cellsI ys) is).run P w = .ok (is.all fun i => xs.getD i 0 == ys.getD i 0) w
  | [], _ => by simp [Op.eqItems]
  | i :: is, h => by
    have hi := h i (by simp)
    exact eqItems_cons w (part_one w he (by rw [Nat.mul_one]; exact cellsI_get xs i hi.1)) (part_one w he (by rw [Nat.mul_one]; exact cellsI_get ys i hi.2)) (run_equalIn_int w d e .i64 .i64 _ _ he) (eqItems_ints w d he xs ys is (fun j hj => h j (by simp [hj])))

theorem wpList_eql {ops : Array Oper} {rest : List Oper} {o : Oper} {a : Act} {w : World} {Q : Exit → Act → World → Prop} (hgd : o.guard = none) (t u : TypeId) (x y : Operand) (ho : o.op = .binOp .eql t x y u)
    (cs ds : Array Value) (hx : a.eval x = .agg cs) (hy : a.eval y = .agg ds) (hm : P.eqGuardType P.depth t = false) (b : Bool) (hE : (Op.equalIn 10000 t (.agg cs) (.agg ds)).run P w = .ok b w)
    (h : wpList P ops Q rest (a.put o.dst (.bool b)) w) : wpList P ops Q (o :: rest) a w := by
  refine wpList_plain hgd fun K hK => ?_
  have hrun : (execOp a.eval o).run P w = .ok (.value (.bool b)) w := by
    simp [execOp, ho, hx, hy, run_eqGuard_agg w _ _ _ _ _ _ hm, run_eql_struct, hE, Result.andThen]
  unfold Oper.wp
  rw [hrun, Oper.upon_value]
  exact hK _ _ h
end

/-- The integers of an inode: the nine of its own, then its root's. -/
def inoI (ks : List Int) (s : Int) (ds : List Int) (p q : Int) : List Int := ks ++ rootI s ds p q
theorem inoI_len (ks : List Int) (s : Int) (ds : List Int) (p q : Int) (hk : ks.length = 9) (hd : ds.length = 12) : (inoI ks s ds p q).length = 24 := by
  unfold inoI
  rw [List.length_append, rootI_len s ds p q hd, hk]
theorem cellsT_int : Tryd.prog.cellsOf 3 = 1 := by kernel_rfl
theorem cellsT_12 : Tryd.prog.cellsOf 23 = 12 := by kernel_rfl
theorem cellsT_15 : Tryd.prog.cellsOf 25 = 15 := by kernel_rfl

def zeroB (l : List Int) : Bool := l.all fun x => x == 0
theorem zeroB_iff (l : List Int) : zeroB l = true ↔ ∀ x ∈ l, x = 0 := by simp [zeroB]

theorem structRoot : Tryd.prog.underlying 25 = some (.struct (Tryd.prog.fieldsOf 25)) := by unfold Program.fieldsOf; rw [Tryd.underlying25]
theorem heldRoot : Tryd.prog.stoodInHeld 25 = false := by kernel_rfl
theorem eqArr_zero (w : World) (d : Nat) (ds : List Int) (hd : ds.length = 12) : (Op.equalIn (d + 2) 23 (.agg (cellsI ds)) (.agg (cellsI (List.replicate 12 0)))).run Tryd.prog w = .ok (zeroB ds) w := by
  obtain ⟨i, hi⟩ : ∃ i, Tryd.prog.info? 3 = some i := info_of_underlying Tryd.underlying3
  rw [run_equalIn_array w (d + 1) _ _ Tryd.underlying23 hi, cellsT_int, eqItems_ints w d Tryd.underlying3 ds (List.replicate 12 0) (List.range 12) (by intro j hj; simp at hj ⊢; omega)]
  match ds, hd with
  | [d0, d1, d2, d3, d4, d5, d6, d7, d8, d9, d10, d11], _ => rfl

theorem ino_range (k0 k1 k2 k3 k4 k5 k6 k7 k8 s : Int) (ds : List Int) (p q : Int) (hd : ds.length = 12) {w : World} {b : Nat} {t : TypeId} (h : Blk w b (cellsI (inoI [k0, k1, k2, k3, k4, k5, k6, k7, k8] s ds p q)) t) : w.rangeAt b 9 ((rootI s ds p q).map (Value.int .i64)) := by
  have hr := h.range 9 15 (by rw [inoI_len _ _ _ _ _ rfl hd]; omega)
  have e : ((inoI [k0, k1, k2, k3, k4, k5, k6, k7, k8] s ds p q).drop 9).take 15 = rootI s ds p q := by
    have hl := rootI_len s ds p q hd
    simp only [inoI, List.drop_append, List.length_cons, List.length_nil, List.drop_succ_cons, List.drop_nil, List.nil_append, Nat.sub_self, List.drop_zero]
    exact List.take_of_length_le (by omega)
  rw [e] at hr
  exact hr

theorem ino_of_list (rs : List Int) (h : rs.length = 24) : ∃ k0 k1 k2 k3 k4 k5 k6 k7 k8 s ds p q, ds.length = 12 ∧ rs = inoI [k0, k1, k2, k3, k4, k5, k6, k7, k8] s ds p q := by
  match rs, h with
  | [k0, k1, k2, k3, k4, k5, k6, k7, k8, s, d0, d1, d2, d3, d4, d5, d6, d7, d8, d9, d10, d11, p, q], _ => exact ⟨k0, k1, k2, k3, k4, k5, k6, k7, k8, s, [d0, d1, d2, d3, d4, d5, d6, d7, d8, d9, d10, d11], p, q, rfl, rfl⟩

end Go.Proofs.YtfkmnmopkblopaaDoor

namespace Go.Proofs.YtfkmnmopkblopaaDoor
set_option linter.unusedVariables false
set_option linter.unusedSimpArgs false
open Go.RowKit

def ptrB (x n : Int) : Bool := decide (x = 0) || (decide (2 ≤ x) && decide (x < n))
theorem pointer_any (x : Int) (w : World) : Calls Tryd.prog 43 #[.int .i64 x] w fun e w' => e = .returned (.bool (ptrB x 2048)) ∧ w = w' := by
  have HP := hide (show ptrB x 2048 = (decide (x = 0) || (decide (2 ≤ x) && decide (x < 2048))) from rfl)
  by_cases h0 : x = 0
  · subst h0
    go_enter Tryd.func43, Tryd.ntmps43
    go_wp2
    go_ret
    exact ⟨rfl, rfl⟩
  · have hq : (x == 0) = false := by simp [h0]
    have HD := hide (show decide (x = 0) = false from by simp [h0])
    clear h0
    by_cases h2 : 2 ≤ x
    · by_cases h3 : x < 2048
      all_goals
        have HR := hide (show ptrB x 2048 = decide (x < 2048) from by rw [HP.out, HD.out]; simp [h2])
        go_enter Tryd.func43, Tryd.ntmps43
        go_wp2
        go_ret
        exact ⟨ret_bool (by rw [HR.out]; simp; try omega), rfl⟩
    · have hq2 : decide (2 ≤ x) = false := by simp; omega
      have HR := hide (show ptrB x 2048 = false from by rw [HP.out, HD.out, hq2]; rfl)
      go_enter Tryd.func43, Tryd.ntmps43
      go_wp2
      go_ret
      exact ⟨ret_bool (by rw [HR.out]), rfl⟩

set_option maxRecDepth 100000 in
set_option maxHeartbeats 1000000 in
theorem pointers_any (s : Int) (ds : List Int) (p q : Int) (w : World) (hd : ds.length = 12) :
    Calls Tryd.prog 42 #[.agg (cellsI (rootI s ds p q))] w fun e w' => ∃ v', e = .returned v' ∧ w'.ownsRow w.heap.size 3 1 v' 14 ((ds ++ [p, q]).map (Value.int .i64)) ∧ Below w.heap.size w w' := by
  obtain ⟨i0, hi, hz0, hz1, hz2⟩ := info_parts infoI64
  have HD := hide hd
  have kB := Blk.new w (cellsI (rootI s ds p q)) 25
  have h0 := own_empty (w.alloc (.cells (cellsI (rootI s ds p q)) 25)) 3
  rw [World.size_alloc] at h0
  have hr : ∀ j u, (ds.map (Value.int .i64))[j]? = some u → ((w.alloc (.cells (cellsI (rootI s ds p q)) 25)).alloc (.cells #[] 3)).cell? ((⟨w.heap.size, 1, none⟩ : Addr).add j) = some u := by
    intro j u hu
    have h := (kB.alloc (.cells #[] 3)).range 1 12 (by rw [rootI_len _ _ _ _ HD.out]; omega)
    rw [root_range _ _ _ _ HD.out] at h
    rw [Addr.add_mid]
    exact h j u hu
  have hb0 : Below w.heap.size w ((w.alloc (.cells (cellsI (rootI s ds p q)) 25)).alloc (.cells #[] 3)) := ((Below.refl _ _).alloc (Nat.le_refl _) _).alloc (by simp) _
  have K := hide (And.intro h0 (And.intro hr (And.intro hb0 (kB.alloc (.cells #[] 3)))))
  clear hd h0 hr hb0 kB
  go_enter Tryd.func42, Tryd.ntmps42
  go_wp2_with (first | (at_builtin; refine wpList_append_own _ rfl (.tmp 4) (.tmp 6) 57 rfl (w.heap.size + 1) 3 i0 (.int .i64 0) 1 8 Tryd.underlying57 hi hz0 hz1 hz2 rfl (by decide) (.slice (some ⟨w.heap.size + 1, 0, none⟩) 0 0) 0 [] rfl K.out.1 ⟨w.heap.size, 1, none⟩ 12 12 (ds.map (Value.int .i64)) rfl (by rw [List.length_map, HD.out]) K.out.2.1 (ints_oneCell _ _) (by unfold maxLen; omega) (by omega) (by simp) ?_; intro v1 w1 hown1 hgr1 _; have a13 := hgr1.cell (a := ⟨w.heap.size, 13, none⟩) ((K.out.2.2.2.cell 13).trans (rootI_get13 s ds p q HD.out)) (by simp [Value.ownBlock]); have a14 := hgr1.cell (a := ⟨w.heap.size, 14, none⟩) ((K.out.2.2.2.cell 14).trans (rootI_get14 s ds p q HD.out)) (by simp [Value.ownBlock]); have H1 := hide (And.intro hown1 hgr1); clear hown1 hgr1) | (at_builtin; refine wpList_append_own _ rfl (.tmp 8) (.tmp 13) 57 rfl (w.heap.size + 1) 3 i0 (.int .i64 0) 1 8 Tryd.underlying57 hi hz0 hz1 hz2 rfl (by decide) v1 _ _ rfl (H1.out.1.alloc _) ⟨w1.heap.size, 0, none⟩ 2 2 [.int .i64 p, .int .i64 q] rfl rfl (cell_two_new _ _ _ _) (ints_oneCell .i64 [p, q]) (by unfold maxLen; omega) (by omega) (by have := H1.out.2.size; simp at this ⊢; omega) ?_; intro v2 w2 hown2 hgr2 _))
  go_ret
  refine ⟨_, rfl, own_mono (base := w.heap.size + 1) ?_ (by omega), ?_⟩
  · have e : (ds ++ [p, q]).map (Value.int .i64) = [] ++ ds.map (Value.int .i64) ++ [.int .i64 p, .int .i64 q] := by simp
    rw [e]
    exact hown2
  · have hs1 := H1.out.2.size
    have hl1 := H1.out.1.lt
    refine (((K.out.2.2.1.grown H1.out.2 (by simp; omega) (fun k h => by simp [Value.ownBlock] at h; omega)).alloc (by simp at hs1; omega) _).grown hgr2 (by simp at hs1 ⊢; omega) (fun k h => by have := (hl1 k h).1; omega))
end Go.Proofs.YtfkmnmopkblopaaDoor

namespace Go.Proofs.YtfkmnmopkblopaaDoor
set_option linter.unusedVariables false
set_option linter.unusedSimpArgs false
open Go.RowKit

def lst (i : Nat) : Int := if i = 13 then 140 else i
def okAt (B : Int) (i : Nat) (x : Int) : Bool := ptrB x 2048 && (decide (x = 0) || decide (lst i < B))
def allR (s : Int) (pts : List Int) (n : Nat) : Bool := (List.range n).all fun i => okAt ((s + 511) / 512) i (pts.getD i 0)
def rightR (s : Int) (ds : List Int) (p q : Int) : Bool := (decide (0 ≤ s) && decide (s ≤ 262144)) && allR s (ds ++ [p, q]) 14
theorem allR_succ (s : Int) (pts : List Int) (n : Nat) : allR s pts (n + 1) = (allR s pts n && okAt ((s + 511) / 512) n (pts.getD n 0)) := by simp [allR, List.range_succ]
theorem allR_bad (s : Int) (pts : List Int) (n k : Nat) (hk : k < n) (h : okAt ((s + 511) / 512) k (pts.getD k 0) = false) : allR s pts n = false := by
  unfold allR
  rw [List.all_eq_false]
  exact ⟨k, by simpa using hk, by rw [h]; simp⟩

theorem okT (s : Int) (k : Nat) (z L : Int) (hp : ptrB z 2048 = true) (hL : lst k = L) (h : (z != 0) = false ∨ L < (s + 512 - 1) / 512) : okAt ((s + 511) / 512) k z = true := by
  unfold okAt
  rw [hp, hL]
  have e : s + 512 - 1 = s + 511 := by omega
  rw [e] at h
  rcases h with h | h
  · simp at h; simp [h]
  · simp [h]
theorem okT0 (s : Int) (k : Nat) (z : Int) (hp : ptrB z 2048 = true) (h : z = 0) : okAt ((s + 511) / 512) k z = true := by
  unfold okAt
  rw [hp]
  simp [h]
theorem okF (s : Int) (k : Nat) (z L : Int) (hL : lst k = L) (h : (z != 0) = true ∧ (s + 512 - 1) / 512 ≤ L) : okAt ((s + 511) / 512) k z = false := by
  unfold okAt
  have e : s + 512 - 1 = s + 511 := by omega
  rw [e] at h
  rw [hL]
  have h1 : ¬ z = 0 := by simpa using h.1
  have h2 : ¬ L < (s + 511) / 512 := by omega
  simp [h1, h2]
theorem lst_cases (k : Nat) : (((k : Int) == 12) = true ∧ ((k : Int) == 13) = false ∧ lst k = 12) ∨ (((k : Int) == 12) = false ∧ ((k : Int) == 13) = true ∧ lst k = 140) ∨ (((k : Int) == 12) = false ∧ ((k : Int) == 13) = false ∧ lst k = (k : Int)) := by
  by_cases h12 : k = 12
  · subst h12; exact .inl ⟨rfl, rfl, rfl⟩
  · by_cases h13 : k = 13
    · subst h13; exact .inr (.inl ⟨rfl, rfl, rfl⟩)
    · refine .inr (.inr ⟨by simp; omega, by simp; omega, ?_⟩)
      unfold lst
      rw [if_neg h13]

set_option maxRecDepth 100000 in
set_option maxHeartbeats 2000000 in
theorem l02Root_any (s : Int) (ds : List Int) (p q : Int) (w : World) (hd : ds.length = 12) :
    Calls Tryd.prog 40 #[.agg (cellsI (rootI s ds p q))] w fun e w' => e = .returned (.bool (rightR s ds p q)) ∧ Below w.heap.size w w' := by
  have HD := hide hd
  have hb0 : Below w.heap.size w (w.alloc (.cells (cellsI (rootI s ds p q)) 25)) := (Below.refl _ _).alloc (Nat.le_refl _) _
  have c0 : (w.alloc (.cells (cellsI (rootI s ds p q)) 25)).cell? ⟨w.heap.size, 0, none⟩ = some (.int .i64 s) := by
    rw [(Blk.new w _ _).cell 0]; rfl
  have HZ := hide (show (cellsI (rootI s ds p q)).size = 15 from by rw [cellsI_size]; exact rootI_len s ds p q HD.out)
  clear hd
  by_cases h1 : 0 ≤ s
  · by_cases h2 : s ≤ 262144
    · have HR := hide (show rightR s ds p q = allR s (ds ++ [p, q]) 14 from by unfold rightR; simp [h1, h2])
      have HL := hide (show (ds ++ [p, q]).length = 14 from by simp [HD.out])
      go_enter Tryd.func40, Tryd.ntmps40
      go_wp2_with (first | (refine wpList_load_row rfl 25 _ rfl w.heap.size rfl 25 (cellsI (rootI s ds p q)) (0, 0) _ (Blk.new w _ _) Tryd.underlying25 rfl (by rw [HZ.out]; exact info15) ?_) | (go_at_call 42; fail))
      refine (pointers_any s ds p q _ HD.out).mono ?_
      rintro e w1 ⟨v1, rfl, o1, b1⟩
      obtain ⟨bd, off, cap, rfl, hbw, _, _, hcell⟩ := (Rd.own o1).partsC (by rw [HL.out]; omega)
      rw [HL.out] at hcell ⊢
      have HB := hide (hb0.trans (b1.mono hb0.size))
      generalize ds ++ [p, q] = pts at hcell HR
      clear o1 b1 hb0 c0
      go_wp2
      go_loop [23] (fun i => ∃ k : Nat, k ≤ 14 ∧ i = .int .i64 k ∧ allR s pts k = true) (fun i => 14 - (intOf i).toNat)
      case atStart => exact ⟨0, by omega, rfl, rfl⟩
      case round =>
        obtain ⟨k, hk, rfl, hall⟩ := hrel
        have HA := hide hall
        clear hall
        by_cases hlt : k < 14
        · have cz := hcell k hlt
          have HS := hide (show allR s pts (k + 1) = (allR s pts k && okAt ((s + 511) / 512) k (pts.getD k 0)) ∧ (okAt ((s + 511) / 512) k (pts.getD k 0) = false → allR s pts 14 = false) from ⟨allR_succ s pts k, allR_bad s pts 14 k hlt⟩)
          clear hcell
          generalize pts.getD k 0 = z at cz HS
          have hok : okAt ((s + 511) / 512) k z = (ptrB z 2048 && (decide (z = 0) || decide (lst k < (s + 511) / 512))) := rfl
          cases hpt : ptrB z 2048 with
          | false =>
            have HF := hide (HS.out.2 (by rw [hok, hpt]; rfl))
            clear hok
            go_wp2_with (go_at_call 43; refine (pointer_any z _).mono ?_; rintro e w' ⟨rfl, rfl⟩; rw [hpt])
            all_goals go_ret
            all_goals exact ⟨ret_bool (by rw [HR.out, HF.out]), HB.out⟩
          | true =>
            have HP := hide hpt
            clear hok
            rcases lst_cases k with ⟨e12, e13, hL⟩ | ⟨e12, e13, hL⟩ | ⟨e12, e13, hL⟩
            all_goals
              have HLk := hide hL
              clear hL
              go_wp2_with (go_at_call 43; refine (pointer_any z _).mono ?_; rintro e w' ⟨rfl, rfl⟩; rw [hpt])
              all_goals first
                | (have HF := HS.out.2 (okF s k z _ HLk.out ‹_›)
                   go_ret
                   exact ⟨ret_bool (by rw [HR.out, HF]), HB.out⟩)
                | (have hT : okAt ((s + 511) / 512) k z = true := by first | exact okT0 s k z HP.out ‹_› | exact okT s k z _ HP.out HLk.out ‹_›
                   go_round
                   case rel => exact ⟨k + 1, by omega, by go_num, by rw [HS.out.1, HA.out, hT]; rfl⟩
                   case measure => simp [intOf]; omega)
        · have e14 : k = 14 := by omega
          subst e14
          go_wp2
          go_ret
          exact ⟨ret_bool (by rw [HR.out, HA.out]), HB.out⟩
    · have HR := hide (show rightR s ds p q = false from by unfold rightR; simp [h2])
      go_enter Tryd.func40, Tryd.ntmps40
      go_wp2
      go_ret
      exact ⟨ret_bool (by rw [HR.out]), hb0⟩
  · have HR := hide (show rightR s ds p q = false from by unfold rightR; simp [h1])
    go_enter Tryd.func40, Tryd.ntmps40
    go_wp2
    go_ret
    exact ⟨ret_bool (by rw [HR.out]), hb0⟩
end Go.Proofs.YtfkmnmopkblopaaDoor
