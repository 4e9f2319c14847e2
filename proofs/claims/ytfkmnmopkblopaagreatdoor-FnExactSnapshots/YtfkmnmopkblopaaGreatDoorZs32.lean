/- EncodeSnap of the model: refusals. The mark that a conversion puts behind a row: what it keeps. A region that draws its order, by what each operation's value is to be: one step an operation, whatever the order. -/
import Derived.Test.YtfkmnmopkblopaaGreatDoorZs24
import Derived.Test.YtfkmnmopkblopaaGreatDoorZs08
import Derived.Test.YtfkmnmopkblopaaGreatDoorZs12
import Derived.Test.YtfkmnmopkblopaaGreatDoorZs01
import Derived.Orders
namespace Go.Proofs.YtfkmnmopkblopaaGreatDoor
set_option linter.unusedVariables false
set_option linter.unusedSimpArgs false
open Go.RowKit

set_option maxRecDepth 100000 in
set_option maxHeartbeats 2000000 in
theorem specS_false (pl : Int) (nm : ByteArray) (ge cl s : Int) (ds : List Int) (p q : Int) (w : World) (hd : ds.length = 12) (hn : nm.size ≤ maxLen) (hr : rightS pl nm ge cl s ds p q = false) :
    Calls Tryz.prog 25 #[.agg (snapC pl nm ge cl s ds p q)] w fun e w' => e = .returned (.tuple #[.slice none 0 0, .int .i64 7]) ∧ Below w.heap.size w w' := by
  have HRF := hide hr
  have HD := hide hd
  have HN := hide hn
  have HLen := hide (show (cellsI (rootI s ds p q)).size = 15 from by rw [cellsI_size]; exact rootI_len s ds p q HD.out)
  have K0 := hide (And.intro (Blk.new w (snapC pl nm ge cl s ds p q) 41) (show Below w.heap.size w (w.alloc (.cells (snapC pl nm ge cl s ds p q) 41)) from (Below.refl _ _).alloc (Nat.le_refl _) _))
  have c0 : (w.alloc (.cells (snapC pl nm ge cl s ds p q) 41)).cell? ⟨w.heap.size, 0, none⟩ = some (.int .i64 pl) := by rw [(Blk.new w _ _).cell 0]; rfl
  have c1 : (w.alloc (.cells (snapC pl nm ge cl s ds p q) 41)).cell? ⟨w.heap.size, 1, none⟩ = some (.string nm) := by rw [(Blk.new w _ _).cell 1]; rfl
  have c2 : (w.alloc (.cells (snapC pl nm ge cl s ds p q) 41)).cell? ⟨w.heap.size, 2, none⟩ = some (.int .i64 ge) := by rw [(Blk.new w _ _).cell 2]; rfl
  have c3 : (w.alloc (.cells (snapC pl nm ge cl s ds p q) 41)).cell? ⟨w.heap.size, 3, none⟩ = some (.int .i64 cl) := by rw [(Blk.new w _ _).cell 3]; rfl
  have HRG := hide (snap_range pl nm ge cl s ds p q K0.out.1)
  clear hd hn hr
  go_enter Tryz.func25, Tryz.ntmps25
  go_wp2_with (go_at_call 35; fail)
  refine (l02Within_any pl 1 31 _).mono ?_
  rintro e w1 ⟨rfl, rfl⟩
  cases e0 : wi pl 1 31 with
  | false =>
    go_wp2
    go_ret2
    exact ⟨rfl, K0.out.2⟩
  | true =>
    go_wp2_with (go_at_call 36; fail)
    refine (Chk.spec_any nm _ HN.out).mono ?_
    rintro e w1 ⟨rfl, rfl⟩
    cases e1 : (Chk.chkS nm == 0) with
    | false =>
      have hb : (Chk.chkS nm != 0) = true := by simp only [bne, e1]; rfl
      go_wp2
      go_ret2
      exact ⟨rfl, K0.out.2⟩
    | true =>
      have hb : Chk.chkS nm = 0 := by simpa using e1
      rw [hb]
      have E1 := hide e1
      clear e1 hb
      go_wp2_with (go_at_call 35; fail)
      refine (l02Within_any ge 1 1099511627776 _).mono ?_
      rintro e w1 ⟨rfl, rfl⟩
      cases e2 : wi ge 1 1099511627776 with
      | false =>
        go_wp2
        go_ret2
        exact ⟨rfl, K0.out.2⟩
      | true =>
        go_wp2_with (go_at_call 35; fail)
        refine (l02Within_any cl 1 1099511627776 _).mono ?_
        rintro e w1 ⟨rfl, rfl⟩
        cases e3 : wi cl 1 1099511627776 with
        | false =>
          go_wp2
          go_ret2
          exact ⟨rfl, K0.out.2⟩
        | true =>
          go_wp2_with (first | (refine wpList_load_midG (by first | rfl | simp [Region.wanted, yielded]) 34 _ rfl w.heap.size 4 rfl ((rootI s ds p q).map (Value.int .i64)) _ HRG.out Tryz.underlying34 rfl (by rw [List.length_map, ← cellsI_size, HLen.out]; exact info15) ?_) | (go_at_call 37; fail))
          refine (l02Root_any s ds p q _ HD.out).mono ?_
          rintro e w2 ⟨rfl, b2⟩
          have B2 := hide (K0.out.2.trans (b2.mono K0.out.2.size))
          have k2 := K0.out.1.below b2 K0.out.1.lt
          have c4 := (k2.cell 4).trans (show (snapC pl nm ge cl s ds p q)[4]? = some (.int .i64 s) from rfl)
          clear b2 k2 c0 c1 c2 c3
          cases e4 : rightR s ds p q with
          | false =>
            go_wp2
            go_ret2
            exact ⟨rfl, B2.out⟩
          | true =>
            go_wp2_with (go_at_call 38; fail)
            refine (tableSize_any s _).mono ?_
            rintro e w3 ⟨rfl, rfl⟩
            have e5 : tabB s = false := by
              have h := HRF.out
              unfold rightS at h
              rw [e0, E1.out, e2, e3, e4] at h
              simpa using h
            go_wp2
            go_ret2
            exact ⟨rfl, B2.out⟩
end Go.Proofs.YtfkmnmopkblopaaGreatDoor

namespace Go.Proofs.YtfkmnmopkblopaaGreatDoor
set_option linter.unusedVariables false
set_option linter.unusedSimpArgs false
open Go.RowKit

/-- What a mark behind a row keeps: every cell; and the blocks, but for the marks of one. -/
theorem freeze_cell (w : World) (g k : Nat) (a : Addr) : (w.freeze ⟨g, k, none⟩ 1).cell? a = w.cell? a := by
  unfold World.freeze World.cell?
  rw [if_neg (by decide)]
  simp only [Array.getElem?_modify]
  by_cases h : g = a.block
  · rw [if_pos h]
    cases e : w.heap[a.block]? with
    | none => rfl
    | some o => cases o <;> rfl
  · rw [if_neg h]
theorem freeze_size (w : World) (g k : Nat) : (w.freeze ⟨g, k, none⟩ 1).heap.size = w.heap.size := by
  unfold World.freeze
  rw [if_neg (by decide)]
  simp
theorem freeze_row (w : World) (g k : Nat) {b : Nat} {C : Array Value} {t : TypeId} (h : ∃ fr, w.heap[b]? = some (.cells C t fr)) : ∃ fr, (w.freeze ⟨g, k, none⟩ 1).heap[b]? = some (.cells C t fr) := by
  obtain ⟨fr, h⟩ := h
  unfold World.freeze
  rw [if_neg (by decide)]
  simp only [Array.getElem?_modify]
  by_cases e : g = b
  · rw [if_pos e, h]; exact ⟨_, rfl⟩
  · rw [if_neg e]; exact ⟨fr, h⟩
theorem freeze_below {B : Nat} {w0 w : World} (h : Below B w0 w) (g k : Nat) (hg : B ≤ g) : Below B w0 (w.freeze ⟨g, k, none⟩ 1) := by
  refine h.trans ⟨?_, ?_, ?_, by rw [freeze_size]; exact Nat.le_refl _, fun j hj => ?_⟩
  · unfold World.freeze; rw [if_neg (by decide)]
  · unfold World.freeze; rw [if_neg (by decide)]
  · unfold World.freeze; rw [if_neg (by decide)]
  · unfold World.freeze
    rw [if_neg (by decide)]
    simp only [Array.getElem?_modify]
    rw [if_neg (show ¬ g = j by omega)]
theorem Rd.freeze {k : IntKind} {w : World} {v : Value} {zs : List Int} (h : Rd k w v zs) (g m : Nat) : Rd k (w.freeze ⟨g, m, none⟩ 1) v zs := by
  obtain ⟨a, cap, rfl, hm, hc, hcap⟩ := h
  refine ⟨a, cap, rfl, hm, fun hne => ?_, hcap⟩
  obtain ⟨b, off, rfl, hlt, hcell⟩ := hc hne
  exact ⟨b, off, rfl, by rw [freeze_size]; exact hlt, fun i hi => by rw [freeze_cell]; exact hcell i hi⟩
theorem AllRd.freeze {w : World} (g m : Nat) : ∀ {vs : List Value} {bs : List (List Int)}, AllRd w vs bs → AllRd (w.freeze ⟨g, m, none⟩ 1) vs bs
  | [], [], _ => trivial
  | _ :: _, _ :: _, h => ⟨h.1.freeze g m, AllRd.freeze g m h.2⟩
  | [], _ :: _, h => h.elim
  | _ :: _, [], h => h.elim
theorem run_mark {P : Program} (w : World) (t e : TypeId) (g n c : Nat) {C : Array Value} (hg : ∃ fr, w.heap[g]? = some (.cells C e fr)) (ht : P.underlying t = some (.slice e)) (he : P.underlying e = some (.int .u8)) :
    (convert t t (.slice (some ⟨g, 0, none⟩) n c)).run P w = .ok (.slice (some ⟨g, 0, none⟩) n c) (w.freeze ⟨g, C.size, none⟩ 1) := by
  obtain ⟨fr, hg⟩ := hg
  have hsh : w.shape? g = some (e, C.size) := by unfold World.shape?; rw [hg]
  simp [convert, run_underlying ht, run_underlying he, markStringish, hsh]
theorem wp_mark {P : Program} {o : Oper} {a : Act} {w : World} {K : Act → World → Prop} {Q : Exit → Act → World → Prop} (t e : TypeId) (x : Operand) (ho : o.op = .convert t t x) (g n c : Nat) {C : Array Value} (hx : a.eval x = .slice (some ⟨g, 0, none⟩) n c) (hg : ∃ fr, w.heap[g]? = some (.cells C e fr)) (ht : P.underlying t = some (.slice e)) (he : P.underlying e = some (.int .u8))
    (h : K (a.put o.dst (.slice (some ⟨g, 0, none⟩) n c)) (w.freeze ⟨g, C.size, none⟩ 1)) : o.wp P a w K Q := by
  unfold Oper.wp execOp
  simp only [ho, hx, Sem.run_bind, Sem.run_pure, Result.andThen_ok, run_mark w t e g n c hg ht he]
  exact h
theorem wpList_mark {P : Program} {ops : Array Oper} {rest : List Oper} {o : Oper} {a : Act} {w : World} {Q : Exit → Act → World → Prop} (hgd : o.guard = none) (t e : TypeId) (x : Operand) (ho : o.op = .convert t t x) (g n c : Nat) {C : Array Value} (hx : a.eval x = .slice (some ⟨g, 0, none⟩) n c) (hg : ∃ fr, w.heap[g]? = some (.cells C e fr)) (ht : P.underlying t = some (.slice e)) (he : P.underlying e = some (.int .u8))
    (h : wpList P ops Q rest (a.put o.dst (.slice (some ⟨g, 0, none⟩) n c)) (w.freeze ⟨g, C.size, none⟩ 1)) : wpList P ops Q (o :: rest) a w := by
  refine wpList_plain hgd fun K hK => ?_
  exact wp_mark t e x ho g n c hx hg ht he (hK _ _ h)
end Go.Proofs.YtfkmnmopkblopaaGreatDoor

namespace Go.Proofs.YtfkmnmopkblopaaGreatDoor
set_option linter.unusedVariables false
set_option linter.unusedSimpArgs false
open Go.RowKit

/-- What stands in the midst of the region: the frame's size, the slots that no operation writes, what holds of the world, what the values of those that came up are. -/
structure RInv (ops : Array Oper) (fs : List (Nat × Value)) (S : World → Prop) (V : Nat → Value → World → Prop) (m : Nat) (ds : List Deferred) (listed : Array Bool) (a : Act) (w : World) : Prop where
  sz : a.tmps.size = m
  df : a.defers = ds
  held : S w
  vals : ∀ i o d, ops[i]? = some o → listed.getD i false = true → o.dst = some d → V i (a.tmps.getD d undef) w
  fix : ∀ t v, (t, v) ∈ fs → a.tmps.getD t undef = v
  seen : ∀ i o, ops[i]? = some o → listed.getD i false = true → ∃ v, V i v w

theorem getD_put {a : Act} {d t : Nat} {v : Value} (hd : d < a.tmps.size) : (a.put (some d) v).tmps.getD t undef = if t = d then v else a.tmps.getD t undef := by
  simp only [Act.put, Array.getD_eq_getD_getElem?, Array.getElem?_setIfInBounds]
  by_cases h : d = t
  · subst h; simp [hd]
  · simp [h, Ne.symm h]
theorem listed_set {listed : Array Bool} {i j : Nat} (hi : i < listed.size) : (listed.setIfInBounds i true).getD j false = if j = i then true else listed.getD j false := by
  simp only [Array.getD_eq_getD_getElem?, Array.getElem?_setIfInBounds]
  by_cases h : i = j
  · subst h; simp [hi]
  · simp [h, Ne.symm h]
theorem count_set {listed : Array Bool} {i : Nat} (hi : i < listed.size) (h : listed.getD i true = false) : (listed.setIfInBounds i true).toList.count false + 1 = listed.toList.count false := by
  have hl : listed[i] = false := by simpa [hi] using h
  rw [Array.toList_setIfInBounds, List.count_set (by simpa using hi)]
  have hp : 0 < listed.toList.count false := List.count_pos_iff.2 (by rw [← hl]; exact Array.mem_toList_iff.2 (Array.getElem_mem hi))
  simp [hl]
  have : List.count false listed.toList = Array.count false listed := by simp
  omega

theorem ready_nil {ops : Array Oper} {listed : Array Bool} {md : Region.Mode} (hsz : listed.size = ops.size) (hord : ∀ (i : Nat) (o : Oper), ops[i]? = some o → ∀ e ∈ o.after, e.on < i) (h : Region.ready md ops listed = []) : ∀ i, i < ops.size → listed.getD i false = true := by
  intro i
  induction i using Nat.strongRecOn with
  | ind i ih =>
    intro hi
    cases e : listed.getD i false with
    | true => rfl
    | false =>
      exfalso
      have hm : i ∈ Region.ready md ops listed := by
        rw [mem_ready]
        refine ⟨?_, ops[i], Array.getElem?_eq_getElem hi, fun ed he _ => ih ed.on (hord i ops[i] (Array.getElem?_eq_getElem hi) ed he) ?_⟩
        · rw [Array.getD_eq_getD_getElem?, Array.getElem?_eq_getElem (by omega)] at e ⊢
          exact e
        · have := hord i ops[i] (Array.getElem?_eq_getElem hi) ed he
          omega
      rw [h] at hm
      cases hm

theorem wpAny_inv {P : Program} {ops : Array Oper} {Q : Exit → Act → World → Prop} (fs : List (Nat × Value)) (S : World → Prop) (V : Nat → Value → World → Prop) (m : Nat) (ds : List Deferred)
    (hord : ∀ (i : Nat) (o : Oper), ops[i]? = some o → ∀ e ∈ o.after, e.on < i)
    (hdst : ∀ (i j : Nat) (oi oj : Oper) (d : Nat), ops[i]? = some oi → ops[j]? = some oj → oi.dst = some d → oj.dst = some d → i = j)
    (hfix : ∀ (i : Nat) (o : Oper) (d : Nat), ops[i]? = some o → o.dst = some d → d < m ∧ ∀ v, (d, v) ∉ fs)
    (hstep : ∀ (i : Nat) (o : Oper) (listed : Array Bool) (a : Act) (w : World), ops[i]? = some o → (∀ e ∈ o.after, Region.binds .any e = true → listed.getD e.on false = true) → RInv ops fs S V m ds listed a w →
      Region.wanted o (yielded ops a.tmps) = true ∧ o.wp P a w (fun a' w' => ∃ v, a' = a.put o.dst v ∧ V i v w' ∧ S w' ∧ ∀ j u, V j u w → V j u w') Q)
    (hfin : ∀ listed a w, (∀ i, i < ops.size → listed.getD i false = true) → RInv ops fs S V m ds listed a w → Q .normal a w) :
    ∀ (fuel : Nat) (listed : Array Bool) (a : Act) (w : World), listed.size = ops.size → listed.toList.count false ≤ fuel → RInv ops fs S V m ds listed a w → wpAny P .any ops Q fuel listed a w
  | 0, listed, a, w, hsz, hc, hI => by
    have hall : ∀ i, i < ops.size → listed.getD i false = true := by
      intro i hi
      cases e : listed.getD i false with
      | true => rfl
      | false =>
        have : false ∈ listed.toList := by
          rw [Array.getD_eq_getD_getElem?, Array.getElem?_eq_getElem (by omega), Option.getD_some] at e
          rw [← e]; exact Array.mem_toList_iff.2 (Array.getElem_mem (by omega))
        have := List.count_pos_iff.2 this
        omega
    refine ⟨?_, hfin listed a w hall hI⟩
    cases e : Region.ready .any ops listed with
    | nil => rfl
    | cons j l =>
      have hj : j ∈ Region.ready .any ops listed := by rw [e]; simp
      obtain ⟨h0, o, ho, _⟩ := mem_ready.1 hj
      have hlt : j < ops.size := (Array.getElem?_eq_some_iff.1 ho).1
      have h1 := hall j hlt
      rw [Array.getD_eq_getD_getElem?, Array.getElem?_eq_getElem (by omega)] at h0 h1
      simp at h0 h1
      rw [h0] at h1
      cases h1
  | fuel + 1, listed, a, w, hsz, hc, hI => by
    refine ⟨fun h => hfin listed a w (ready_nil hsz hord h) hI, fun i hi => ?_⟩
    obtain ⟨h0, o, ho, hall⟩ := mem_ready.1 hi
    have hlt : i < ops.size := (Array.getElem?_eq_some_iff.1 ho).1
    have hs := hstep i o listed a w ho hall hI
    unfold wpOp
    simp only [ho, hs.1, if_true]
    refine .inl (Oper.wp_mono ?_ hs.2)
    rintro a' w' ⟨v, rfl, hv, hS, hk⟩
    have hcs := count_set (listed := listed) (i := i) (by omega) h0
    refine wpAny_inv fs S V m ds hord hdst hfix hstep hfin fuel _ _ _ (by simpa using hsz) (by omega) ?_
    cases hd : o.dst with
    | none =>
      refine ⟨hI.sz, hI.df, hS, fun j oj d hj hl hjd => ?_, hI.fix, fun j oj hj hl => ?_⟩
      · rw [listed_set (by omega)] at hl
        by_cases e : j = i
        · subst e
          rw [ho] at hj
          cases hj
          rw [hd] at hjd
          cases hjd
        · rw [if_neg e] at hl
          exact hk j _ (hI.vals j oj d hj hl hjd)
      · rw [listed_set (by omega)] at hl
        by_cases e : j = i
        · subst e
          exact ⟨v, hv⟩
        · rw [if_neg e] at hl
          obtain ⟨u, hu⟩ := hI.seen j oj hj hl
          exact ⟨u, hk j u hu⟩
    | some d0 =>
      have hf := hfix i o d0 ho hd
      have hd0 : d0 < a.tmps.size := by rw [hI.sz]; exact hf.1
      refine ⟨by simp [Act.put, hI.sz], by simpa [Act.put] using hI.df, hS, fun j oj d hj hl hjd => ?_, fun t u htu => ?_, fun j oj hj hl => ?_⟩
      · rw [listed_set (by omega)] at hl
        rw [getD_put hd0]
        by_cases e : j = i
        · subst e
          rw [ho] at hj
          cases hj
          rw [hd] at hjd
          cases hjd
          rw [if_pos rfl]
          exact hv
        · rw [if_neg e] at hl
          rw [if_neg (fun h => e (hdst j i oj o d hj ho hjd (by rw [hd, h])))]
          exact hk j _ (hI.vals j oj d hj hl hjd)
      · rw [getD_put hd0, if_neg (fun h : t = d0 => hf.2 u (by rw [← h]; exact htu))]
        exact hI.fix t u htu
      · rw [listed_set (by omega)] at hl
        by_cases e : j = i
        · subst e
          exact ⟨v, hv⟩
        · rw [if_neg e] at hl
          obtain ⟨u, hu⟩ := hI.seen j oj hj hl
          exact ⟨u, hk j u hu⟩

/-- The region's own order, looked at by program. -/
def rchk (ops : Array Oper) (m : Nat) (ks : List Nat) : Bool :=
  (List.range ops.size).all fun i => match ops[i]? with
    | none => true
    | some o => (o.after.toList.all fun e => decide (e.on < i)) && (match o.dst with
      | none => true
      | some d => decide (d < m) && !ks.contains d && (List.range i).all fun j => match ops[j]? with
        | none => true
        | some oj => !(oj.dst == some d))
theorem rchk_at {ops : Array Oper} {m : Nat} {ks : List Nat} (h : rchk ops m ks = true) {i : Nat} {o : Oper} (hi : ops[i]? = some o) :
    (∀ e ∈ o.after, e.on < i) ∧ ∀ d, o.dst = some d → d < m ∧ d ∉ ks ∧ ∀ j oj, j < i → ops[j]? = some oj → oj.dst ≠ some d := by
  have hlt : i < ops.size := (Array.getElem?_eq_some_iff.1 hi).1
  unfold rchk at h
  rw [List.all_eq_true] at h
  have h1 := h i (List.mem_range.2 hlt)
  simp only [hi, Bool.and_eq_true] at h1
  obtain ⟨ha, hb⟩ := h1
  refine ⟨fun e he => ?_, fun d hd => ?_⟩
  · rw [List.all_eq_true] at ha
    exact of_decide_eq_true (ha e (Array.mem_toList_iff.2 he))
  · simp only [hd, Bool.and_eq_true] at hb
    obtain ⟨⟨h2, h3⟩, h4⟩ := hb
    refine ⟨of_decide_eq_true h2, by simpa using h3, fun j oj hj hoj e => ?_⟩
    rw [List.all_eq_true] at h4
    have h5 := h4 j (List.mem_range.2 hj)
    simp only [hoj, e] at h5
    simp at h5
theorem wpAny_invB {P : Program} {ops : Array Oper} {Q : Exit → Act → World → Prop} (fs : List (Nat × Value)) (S : World → Prop) (V : Nat → Value → World → Prop) (m : Nat) (ds : List Deferred)
    (hB : rchk ops m (fs.map (·.1)) = true)
    (hstep : ∀ (i : Nat) (o : Oper) (listed : Array Bool) (a : Act) (w : World), ops[i]? = some o → (∀ e ∈ o.after, Region.binds .any e = true → listed.getD e.on false = true) → RInv ops fs S V m ds listed a w →
      Region.wanted o (yielded ops a.tmps) = true ∧ o.wp P a w (fun a' w' => ∃ v, a' = a.put o.dst v ∧ V i v w' ∧ S w' ∧ ∀ j u, V j u w → V j u w') Q)
    (hfin : ∀ listed a w, (∀ i, i < ops.size → listed.getD i false = true) → RInv ops fs S V m ds listed a w → Q .normal a w)
    (a : Act) (w : World) (hsz : a.tmps.size = m) (hdf : a.defers = ds) (hS : S w) (hf : ∀ t v, (t, v) ∈ fs → a.tmps.getD t undef = v) : wpAny P .any ops Q ops.size (Array.replicate ops.size false) a w := by
  refine wpAny_inv fs S V m ds (fun i o hi => (rchk_at hB hi).1) (fun i j oi oj d hi hj h1 h2 => ?_) (fun i o d hi hd => ?_) hstep hfin _ _ _ _ (by simp) ?_ ⟨hsz, hdf, hS, fun i o d _ hl _ => ?_, hf, fun i o _ hl => ?_⟩
  · rcases Nat.lt_trichotomy i j with h | h | h
    · exact absurd h1 (((rchk_at hB hj).2 d h2).2.2 i oi h hi)
    · exact h
    · exact absurd h2 (((rchk_at hB hi).2 d h1).2.2 j oj h hj)
  · have := (rchk_at hB hi).2 d hd
    exact ⟨this.1, fun v hv => this.2.1 (List.mem_map.2 ⟨_, hv, rfl⟩)⟩
  · rw [Array.toList_replicate, List.count_replicate]; simp
  · simp [Array.getD_eq_getD_getElem?, Array.getElem?_replicate] at hl
    split at hl <;> simp at hl
  · simp [Array.getD_eq_getD_getElem?, Array.getElem?_replicate] at hl
    split at hl <;> simp at hl
/-- The value of one that came up. -/
theorem RInv.at {ops : Array Oper} {fs : List (Nat × Value)} {S : World → Prop} {V : Nat → Value → World → Prop} {m : Nat} {ds : List Deferred} {listed : Array Bool} {a : Act} {w : World} {o oj : Oper} (h : RInv ops fs S V m ds listed a w)
    (hall : ∀ e ∈ o.after, Region.binds .any e = true → listed.getD e.on false = true) (j d : Nat) (hj : ops[j]? = some oj) (hd : oj.dst = some d) (ha : (o.after.toList.any fun e => e.on == j && Region.binds .any e) = true) : V j (a.tmps.getD d undef) w := by
  rw [List.any_eq_true] at ha
  obtain ⟨e, he, h2⟩ := ha
  rw [Bool.and_eq_true] at h2
  have h3 : e.on = j := by simpa using h2.1
  have h4 := hall e (Array.mem_toList_iff.1 he) h2.2
  rw [h3] at h4
  exact h.vals j oj d hj h4 hd
end Go.Proofs.YtfkmnmopkblopaaGreatDoor
