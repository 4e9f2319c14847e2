/- A region that draws its order, inside a fence (also within a round of a range over a function): Inv's way, for operations that are no calls. A directory of one byte is refused: the program's DirCheck of it. (openDir_odd is DirX's.) Helpers of the law on logs: copies by append, bytes as strings, the size of a draw. The law on logs: one record laid down, or none; the loop. -/
import Derived.Test.YtohmjfagbhnieaaGreatDoorZl13
import Derived.Test.YtohmjfagbhnieaaGreatDoorZl33
import Derived.OrdersIn
import Derived.Shelf.RegionOpen
import Derived.Test.YtohmjfagbhnieaaGreatDoorZl04
import Derived.Test.YtohmjfagbhnieaaGreatDoorZl01
import Derived.Maps.OwnIn
import Derived.Sort.QuietIn
import Derived.Test.YtohmjfagbhnieaaGreatDoorZl41
import Derived.Laws.BytesArg
import Derived.Maps.AppendAt
import Derived.BigQuiet
import Derived.Deep.DeepCutAuto
import Derived.Deep.RegionHeld3
namespace Go.Proofs.YtohmjfagbhnieaaGreatDoor
set_option linter.unusedVariables false
set_option linter.unusedSimpArgs false
open Go.RowKit

theorem ready_nilB {ops : Array Oper} {listed : Array Bool} {md : Region.Mode} (hsz : listed.size = ops.size) (hord : ∀ (i : Nat) (o : Oper), ops[i]? = some o → ∀ e ∈ o.after, Region.binds md e = true → e.on < i) (h : Region.ready md ops listed = []) : ∀ i, i < ops.size → listed.getD i false = true := by
  intro i
  induction i using Nat.strongRecOn with
  | ind i ih =>
    intro hi
    cases e : listed.getD i false with
    | true => rfl
    | false =>
      exfalso
      have hm : i ∈ Region.ready md ops listed := by
        rw [mem_ready]
        refine ⟨?_, ops[i], Array.getElem?_eq_getElem hi, fun ed he hb => ih ed.on (hord i ops[i] (Array.getElem?_eq_getElem hi) ed he hb) ?_⟩
        · rw [Array.getD_eq_getD_getElem?, Array.getElem?_eq_getElem (by omega)] at e ⊢
          exact e
        · have := hord i ops[i] (Array.getElem?_eq_getElem hi) ed he hb
          omega
      rw [h] at hm
      cases hm

def rchkB (ops : Array Oper) (m : Nat) (ks : List Nat) : Bool :=
  (List.range ops.size).all fun i => match ops[i]? with
    | none => true
    | some o => (o.after.toList.all fun e => !(Region.binds .any e) || decide (e.on < i)) && (match o.dst with
      | none => true
      | some d => decide (d < m) && !ks.contains d && (List.range i).all fun j => match ops[j]? with
        | none => true
        | some oj => !(oj.dst == some d))
theorem rchkB_at {ops : Array Oper} {m : Nat} {ks : List Nat} (h : rchkB ops m ks = true) {i : Nat} {o : Oper} (hi : ops[i]? = some o) :
    (∀ e ∈ o.after, Region.binds .any e = true → e.on < i) ∧ ∀ d, o.dst = some d → d < m ∧ d ∉ ks ∧ ∀ j oj, j < i → ops[j]? = some oj → oj.dst ≠ some d := by
  have hlt : i < ops.size := (Array.getElem?_eq_some_iff.1 hi).1
  unfold rchkB at h
  rw [List.all_eq_true] at h
  have h1 := h i (List.mem_range.2 hlt)
  simp only [hi, Bool.and_eq_true] at h1
  obtain ⟨ha, hb⟩ := h1
  refine ⟨fun e he hbd => ?_, fun d hd => ?_⟩
  · rw [List.all_eq_true] at ha
    have h9 := ha e (Array.mem_toList_iff.2 he)
    rw [hbd] at h9
    simpa using h9
  · simp only [hd, Bool.and_eq_true] at hb
    obtain ⟨⟨h2, h3⟩, h4⟩ := hb
    refine ⟨of_decide_eq_true h2, by simpa using h3, fun j oj hj hoj e => ?_⟩
    rw [List.all_eq_true] at h4
    have h5 := h4 j (List.mem_range.2 hj)
    simp only [hoj, e] at h5
    simp at h5
theorem wpAnyIn_inv {F : Fence} {n : Nat} {P : Program} {ops : Array Oper} {Q : Exit → Act → World → Prop} (fs : List (Nat × Value)) (S : World → Prop) (V : Nat → Value → World → Prop) (m : Nat) (ds : List Deferred)
    (hord : ∀ (i : Nat) (o : Oper), ops[i]? = some o → ∀ e ∈ o.after, Region.binds .any e = true → e.on < i)
    (hdst : ∀ (i j : Nat) (oi oj : Oper) (d : Nat), ops[i]? = some oi → ops[j]? = some oj → oi.dst = some d → oj.dst = some d → i = j)
    (hfix : ∀ (i : Nat) (o : Oper) (d : Nat), ops[i]? = some o → o.dst = some d → d < m ∧ ∀ v, (d, v) ∉ fs)
    (hstep : ∀ (i : Nat) (o : Oper) (listed : Array Bool) (a : Act) (w : World), ops[i]? = some o → (∀ e ∈ o.after, Region.binds .any e = true → listed.getD e.on false = true) → RInv ops fs S V m ds listed a w →
      Region.wanted o (yielded ops a.tmps) = true ∧ (∀ c, o.op ≠ .call c) ∧ (∀ c, o.op ≠ .defer c) ∧ ∃ x v w', (execOp a.eval o).run P w = .ok x w' ∧ (x = .value v ∨ (x = .skip ∧ v = undef)) ∧ V i v w' ∧ S w' ∧ ∀ j u, V j u w → V j u w')
    (hfin : ∀ listed a w, (∀ i, i < ops.size → listed.getD i false = true) → RInv ops fs S V m ds listed a w → Q .normal a w) :
    ∀ (fuel : Nat) (listed : Array Bool) (a : Act) (w : World), listed.size = ops.size → listed.toList.count false ≤ fuel → RInv ops fs S V m ds listed a w → wpAnyIn F n P .any ops Q fuel listed a w
  | 0, listed, a, w, hsz, hc, hI => by
    have hall : ∀ i, i < ops.size → listed.getD i false = true := by
      intro i hi
      cases e : listed.getD i false with
      | true => rfl
      | false =>
        have : false ∈ listed.toList := by
          rw [Array.getD_eq_getD_getElem?, Array.getElem?_eq_getElem (by omega), Option.getD_some] at e
          rw [← e]; exact Array.mem_toList_iff.2 (Array.getElem_mem (by omega))
        have := List.count_pos_iff.2 this
        omega
    refine ⟨?_, hfin listed a w hall hI⟩
    cases e : Region.ready .any ops listed with
    | nil => rfl
    | cons j l =>
      have hj : j ∈ Region.ready .any ops listed := by rw [e]; simp
      obtain ⟨h0, o, ho, _⟩ := mem_ready.1 hj
      have hlt : j < ops.size := (Array.getElem?_eq_some_iff.1 ho).1
      have h1 := hall j hlt
      rw [Array.getD_eq_getD_getElem?, Array.getElem?_eq_getElem (by omega)] at h0 h1
      simp at h0 h1
      rw [h0] at h1
      cases h1
  | fuel + 1, listed, a, w, hsz, hc, hI => by
    refine ⟨fun h => hfin listed a w (ready_nilB hsz hord h) hI, fun i hi => ?_⟩
    obtain ⟨h0, o, ho, hall⟩ := mem_ready.1 hi
    have hlt : i < ops.size := (Array.getElem?_eq_some_iff.1 ho).1
    obtain ⟨hwt, hnc, hnd, x, v, w', hrun, hx, hv, hS, hk⟩ := hstep i o listed a w ho hall hI
    have hab : o.about P w a.eval = none := by
      unfold Oper.about
      split
      · rename_i c hc
        exact absurd hc (hnc c)
      · rfl
    unfold wpOpIn
    simp only [ho, hwt, if_true]
    unfold Oper.wpIn
    refine ⟨by simp [hab], ?_⟩
    rw [Oper.semAt_plain F _ _ hnd, hrun]
    suffices h : wpAnyIn F n P .any ops Q fuel (listed.setIfInBounds i true) (a.put o.dst v) w' by
      rcases hx with rfl | ⟨rfl, rfl⟩
      · exact h
      · exact h
    have hcs := count_set (listed := listed) (i := i) (by omega) h0
    refine wpAnyIn_inv fs S V m ds hord hdst hfix hstep hfin fuel _ _ _ (by simpa using hsz) (by omega) ?_
    cases hd : o.dst with
    | none =>
      refine ⟨hI.sz, hI.df, hS, fun j oj d hj hl hjd => ?_, hI.fix, fun j oj hj hl => ?_⟩
      · rw [listed_set (by omega)] at hl
        by_cases e : j = i
        · subst e
          rw [ho] at hj
          cases hj
          rw [hd] at hjd
          cases hjd
        · rw [if_neg e] at hl
          exact hk j _ (hI.vals j oj d hj hl hjd)
      · rw [listed_set (by omega)] at hl
        by_cases e : j = i
        · subst e
          exact ⟨v, hv⟩
        · rw [if_neg e] at hl
          obtain ⟨u, hu⟩ := hI.seen j oj hj hl
          exact ⟨u, hk j u hu⟩
    | some d0 =>
      have hf := hfix i o d0 ho hd
      have hd0 : d0 < a.tmps.size := by rw [hI.sz]; exact hf.1
      refine ⟨by simp [Act.put, hI.sz], by simpa [Act.put] using hI.df, hS, fun j oj d hj hl hjd => ?_, fun t u htu => ?_, fun j oj hj hl => ?_⟩
      · rw [listed_set (by omega)] at hl
        rw [getD_put hd0]
        by_cases e : j = i
        · subst e
          rw [ho] at hj
          cases hj
          rw [hd] at hjd
          cases hjd
          rw [if_pos rfl]
          exact hv
        · rw [if_neg e] at hl
          rw [if_neg (fun h => e (hdst j i oj o d hj ho hjd (by rw [hd, h])))]
          exact hk j _ (hI.vals j oj d hj hl hjd)
      · rw [getD_put hd0, if_neg (fun h : t = d0 => hf.2 u (by rw [← h]; exact htu))]
        exact hI.fix t u htu
      · rw [listed_set (by omega)] at hl
        by_cases e : j = i
        · subst e
          exact ⟨v, hv⟩
        · rw [if_neg e] at hl
          obtain ⟨u, hu⟩ := hI.seen j oj hj hl
          exact ⟨u, hk j u hu⟩

theorem wpAnyIn_invB {F : Fence} {n : Nat} {P : Program} {ops : Array Oper} {Q : Exit → Act → World → Prop} (fs : List (Nat × Value)) (S : World → Prop) (V : Nat → Value → World → Prop) (m : Nat) (ds : List Deferred)
    (hB : rchkB ops m (fs.map (·.1)) = true)
    (hstep : ∀ (i : Nat) (o : Oper) (listed : Array Bool) (a : Act) (w : World), ops[i]? = some o → (∀ e ∈ o.after, Region.binds .any e = true → listed.getD e.on false = true) → RInv ops fs S V m ds listed a w →
      Region.wanted o (yielded ops a.tmps) = true ∧ (∀ c, o.op ≠ .call c) ∧ (∀ c, o.op ≠ .defer c) ∧ ∃ x v w', (execOp a.eval o).run P w = .ok x w' ∧ (x = .value v ∨ (x = .skip ∧ v = undef)) ∧ V i v w' ∧ S w' ∧ ∀ j u, V j u w → V j u w')
    (hfin : ∀ listed a w, (∀ i, i < ops.size → listed.getD i false = true) → RInv ops fs S V m ds listed a w → Q .normal a w)
    (a : Act) (w : World) (hsz : a.tmps.size = m) (hdf : a.defers = ds) (hS : S w) (hf : ∀ t v, (t, v) ∈ fs → a.tmps.getD t undef = v) : wpAnyIn F n P .any ops Q ops.size (Array.replicate ops.size false) a w := by
  refine wpAnyIn_inv fs S V m ds (fun i o hi => (rchkB_at hB hi).1) (fun i j oi oj d hi hj h1 h2 => ?_) (fun i o d hi hd => ?_) hstep hfin _ _ _ _ (by simp) ?_ ⟨hsz, hdf, hS, fun i o d _ hl _ => ?_, hf, fun i o _ hl => ?_⟩
  · rcases Nat.lt_trichotomy i j with h | h | h
    · exact absurd h1 (((rchkB_at hB hj).2 d h2).2.2 i oi h hi)
    · exact h
    · exact absurd h2 (((rchkB_at hB hi).2 d h1).2.2 j oj h hj)
  · have := (rchkB_at hB hi).2 d hd
    exact ⟨this.1, fun v hv => this.2.1 (List.mem_map.2 ⟨_, hv, rfl⟩)⟩
  · rw [Array.toList_replicate, List.count_replicate]; simp
  · simp [Array.getD_eq_getD_getElem?, Array.getElem?_replicate] at hl
    split at hl <;> simp at hl
  · simp [Array.getD_eq_getD_getElem?, Array.getElem?_replicate] at hl
    split at hl <;> simp at hl
theorem tmps71 (a : Array Value) (h : a.size = 71) : a = #[a.getD 0 undef, a.getD 1 undef, a.getD 2 undef, a.getD 3 undef, a.getD 4 undef, a.getD 5 undef, a.getD 6 undef, a.getD 7 undef, a.getD 8 undef, a.getD 9 undef, a.getD 10 undef, a.getD 11 undef, a.getD 12 undef, a.getD 13 undef, a.getD 14 undef, a.getD 15 undef, a.getD 16 undef, a.getD 17 undef, a.getD 18 undef, a.getD 19 undef, a.getD 20 undef, a.getD 21 undef, a.getD 22 undef, a.getD 23 undef, a.getD 24 undef, a.getD 25 undef, a.getD 26 undef, a.getD 27 undef, a.getD 28 undef, a.getD 29 undef, a.getD 30 undef, a.getD 31 undef, a.getD 32 undef, a.getD 33 undef, a.getD 34 undef, a.getD 35 undef, a.getD 36 undef, a.getD 37 undef, a.getD 38 undef, a.getD 39 undef, a.getD 40 undef, a.getD 41 undef, a.getD 42 undef, a.getD 43 undef, a.getD 44 undef, a.getD 45 undef, a.getD 46 undef, a.getD 47 undef, a.getD 48 undef, a.getD 49 undef, a.getD 50 undef, a.getD 51 undef, a.getD 52 undef, a.getD 53 undef, a.getD 54 undef, a.getD 55 undef, a.getD 56 undef, a.getD 57 undef, a.getD 58 undef, a.getD 59 undef, a.getD 60 undef, a.getD 61 undef, a.getD 62 undef, a.getD 63 undef, a.getD 64 undef, a.getD 65 undef, a.getD 66 undef, a.getD 67 undef, a.getD 68 undef, a.getD 69 undef, a.getD 70 undef] := by
  have e : a = ((List.range 71).map fun i => a.getD i undef).toArray := Array.ext (by simp [h]) (fun i h1 h2 => by simp [Array.getD, h1])
  exact e
end Go.Proofs.YtohmjfagbhnieaaGreatDoor

namespace Go.Proofs.YtohmjfagbhnieaaGreatDoor
set_option linter.unusedVariables false
set_option linter.unusedSimpArgs false
open Go.RowKit Go.Shelf
attribute [local go_sem] Oper.semAt_some

theorem results_boxO {fn : Func} {p q : Tmp} (h : fn.results = #[.cell p 73, .cell q 75]) (tmps : Array Value) (w : World) (R1 R2 : Nat) (v1 v2 : Value) (hp : tmps.getD p undef = .pointer (some ⟨R1, 0, none⟩)) (hq : tmps.getD q undef = .pointer (some ⟨R2, 0, none⟩))
    (h1 : Boxed w R1 73 v1) (h2 : Boxed w R2 75 v2) : (results fn tmps).run Tryz.prog w = .ok (.tuple #[v1, v2]) w := by
  have c1 := h1.cell
  have c2 := h2.cell
  have hp' : tmps[p]?.getD undef = .pointer (some ⟨R1, 0, none⟩) := by rw [← Array.getD_eq_getD_getElem?]; exact hp
  have hq' : tmps[q]?.getD undef = .pointer (some ⟨R2, 0, none⟩) := by rw [← Array.getD_eq_getD_getElem?]; exact hq
  simp only [results, h]
  go_simp

set_option maxRecDepth 100000 in
set_option maxHeartbeats 4000000 in
theorem openDir_odd (cap : Nat) (a : Option Addr) (zs : List Int) (w : World) (h : Rd .u8 w (.slice a zs.length cap) zs) (h512 : zs.length % 512 ≠ 0) :
    Calls Tryz.prog 36 #[.slice a zs.length cap] w fun e w' => ∃ v ev, e = .returned (.tuple #[v, ev]) ∧ (∃ m, Flt w' w.heap.size m ev 21) ∧ Below w.heap.size w w' := by
  have hm := h.len
  unfold maxLen at hm
  have h512i : ((((zs.length : Int) % 512)) == 0) = false := by simp; omega
  obtain ⟨wR, hwR⟩ : ∃ wR, wR = (w.alloc (.cells #[.pointer none] 73)).alloc (.cells #[.nilIface] 75) := ⟨_, rfl⟩
  have hsR : wR.heap.size = w.heap.size + 1 + 1 := by rw [hwR]; simp
  have hbR : Below w.heap.size w wR := by rw [hwR]; exact ((Below.refl _ _).alloc (Nat.le_refl _) _).alloc (by simp) _
  have hx1 : Boxed wR w.heap.size 73 (.pointer none) := by rw [hwR]; exact (Boxed.new w _ _).alloc _
  have hx2 : Boxed wR (w.heap.size + 1) 75 .nilIface := by
    have h := Boxed.new (w.alloc (.cells #[.pointer none] 73)) 75 .nilIface
    rw [World.size_alloc] at h
    rw [hwR]; exact h
  have K0 := hide (And.intro (Ck.fresh wR 21 96) (hbR.alloc hbR.size (.cells #[.int .i64 21, .nilIface] 96)))
  have HWR := hide hwR
  have HXB := hide (And.intro hx1 hx2)
  clear hwR hbR hx1 hx2
  refine (callsIn_wide (n := 6)).1 ?_
  refine callsIn_of_wp_marks Tryz.func36 rfl trivial ?_ rfl
  simp only [Tryz.ntmps36, List.size_toArray, List.length_cons, List.length_nil, Nat.reduceAdd, Nat.reduceSub, Array.replicate_succ, Array.replicate_zero, List.push_toArray, List.append_toArray, List.nil_append, List.cons_append]
  gi_wp2_with (refine ⟨trivial, ?_⟩; gi_at_call 49; fail)
  refine ⟨trivial, ?_⟩
  rw [← HWR.out, ← hsR]
  refine (callsIn_wide.2 (need_any wR.heap.size (wR.heap.size + 1) _ 21 true false _ K0.out.1 (by omega) (by simp))).mono ?_
  rintro e w1 ⟨rfl, hc1, ht1⟩
  have K1 := hide (And.intro hc1 (show Below w.heap.size w w1 from K0.out.2.grown ht1.1 (by simp; omega) (fun k e => by cases e; omega)))
  have hs1 : wR.heap.size + 1 ≤ w1.heap.size := by have := ht1.1.size; simp at this; omega
  have KX := hide (And.intro (Boxed.kept (HXB.out.1.alloc (.cells #[.int .i64 21, .nilIface] 96)) ht1.1 (by simp; omega)) (Boxed.kept (HXB.out.2.alloc (.cells #[.int .i64 21, .nilIface] 96)) ht1.1 (by simp; omega)))
  clear hc1 ht1 K0
  rw [Bool.true_and] at K1
  obtain ⟨e1, c1, hf1⟩ := K1.out.1.fault
  rw [hsR] at c1
  rcases hf1 with ⟨hf1, _⟩ | ⟨_, m1, hf1⟩
  · cases hf1
  obtain ⟨t6, x6, rfl⟩ := hf1.iface
  have HF := hide hf1
  clear hf1
  gi_wp2
  refine wpIn_region_any (by kernel_rfl) ?_
  change wpAnyIn _ _ _ _ _ _ _ _ _ (World.drew w1)
  refine wpAnyIn_invB [(2, .pointer (some ⟨w.heap.size, 0, none⟩)), (3, .pointer (some ⟨w.heap.size + 1, 0, none⟩)), (4, .pointer (some ⟨w.heap.size + 1 + 1, 0, none⟩))] (fun w' => (∀ k, k ≠ w.heap.size → k ≠ w.heap.size + 1 → w'.heap[k]? = w1.heap[k]?) ∧ w'.heap.size = w1.heap.size ∧ (w'.os = w1.os ∧ w'.tape = w1.tape ∧ w'.output = w1.output) ∧ Boxed w' w.heap.size 73 (.pointer none) ∧ ∃ u, Boxed w' (w.heap.size + 1) 75 u)
    (fun i v w' => (i = 0 → v = .pointer (some ⟨w.heap.size + 1 + 1, 1, none⟩)) ∧ (i = 1 → v = (.iface t6 (.pointer (some x6)))) ∧ (i = 3 → Boxed w' (w.heap.size + 1) 75 (.iface t6 (.pointer (some x6))))) 71 [] (by kernel_rfl) ?hstep3 ?hfin3 _ _ rfl rfl ⟨fun _ _ _ => rfl, rfl, ⟨rfl, rfl, rfl⟩, KX.out.1, _, KX.out.2⟩ (by
    intro t v h
    simp only [List.mem_cons, List.not_mem_nil, or_false, Prod.mk.injEq] at h
    rcases h with ⟨rfl, rfl⟩ | ⟨rfl, rfl⟩ | ⟨rfl, rfl⟩ <;> rfl)
  case hstep3 =>
    intro i o listed ac wz hi hall hI3
    obtain ⟨hb3, hsz3, hos3, h13, u3, h23⟩ := hI3.held
    have f2 : ac.tmps.getD 2 undef = .pointer (some ⟨w.heap.size, 0, none⟩) := hI3.fix 2 _ (by simp)
    have f3 : ac.tmps.getD 3 undef = .pointer (some ⟨w.heap.size + 1, 0, none⟩) := hI3.fix 3 _ (by simp)
    have f4 : ac.tmps.getD 4 undef = .pointer (some ⟨w.heap.size + 1 + 1, 0, none⟩) := hI3.fix 4 _ (by simp)
    have HI3 := hide hI3
    match i, hi with
    | 0, hi =>
      obtain rfl := Option.some.inj hi
      exact ⟨by rfl, (fun c => by intro h; cases h), (fun c => by intro h; cases h), .value (.pointer (some ⟨w.heap.size + 1 + 1, 1, none⟩)), _, wz, by go_simp, .inl rfl, ⟨fun _ => rfl, fun h => (by cases h), fun h => (by cases h)⟩, HI3.out.held, fun _ _ h => h⟩
    | 1, hi =>
      obtain rfl := Option.some.inj hi
      have v0 : ac.tmps.getD 25 undef = .pointer (some ⟨w.heap.size + 1 + 1, 1, none⟩) := (HI3.out.at hall 0 25 rfl rfl (by rfl)).1 rfl
      have hc3 : wz.cell? ⟨w.heap.size + 1 + 1, 1, none⟩ = some (.iface t6 (.pointer (some x6))) := (World.cell?_of_block (a := ⟨w.heap.size + 1 + 1, 1, none⟩) (hb3 _ (by simp; omega) (by simp))).trans c1
      exact ⟨by rfl, (fun c => by intro h; cases h), (fun c => by intro h; cases h), .value (.iface t6 (.pointer (some x6))), _, wz, by go_simp, .inl rfl, ⟨fun h => (by cases h), fun _ => rfl, fun h => (by cases h)⟩, HI3.out.held, fun _ _ h => h⟩
    | 2, hi =>
      obtain rfl := Option.some.inj hi
      have hc3 := h13.cell
      have hf3 := h13.frozen
      refine ⟨by rfl, (fun c => by intro h; cases h), (fun c => by intro h; cases h), .skip, undef, wz.setCell ⟨w.heap.size, 0, none⟩ (.pointer none), by go_simp, .inr ⟨rfl, rfl⟩, ⟨fun h => (by cases h), fun h => (by cases h), fun h => (by cases h)⟩, ⟨fun k h1 h2 => (Below.heap_setCell wz ⟨w.heap.size, 0, none⟩ _ k (fun e => h1 e)).trans (hb3 k h1 h2), by simpa using hsz3, hos3, h13.set _, u3, h23.other (by omega) _⟩, fun j v h => ⟨h.1, h.2.1, fun hj => (h.2.2 hj).other (by omega) _⟩⟩
    | 3, hi =>
      obtain rfl := Option.some.inj hi
      have v1 : ac.tmps.getD 26 undef = (.iface t6 (.pointer (some x6))) := (HI3.out.at hall 1 26 rfl rfl (by rfl)).2.1 rfl
      have hc3 := h23.cell
      have hf3 := h23.frozen
      refine ⟨by rfl, (fun c => by intro h; cases h), (fun c => by intro h; cases h), .skip, undef, wz.setCell ⟨w.heap.size + 1, 0, none⟩ (.iface t6 (.pointer (some x6))), by go_simp, .inr ⟨rfl, rfl⟩, ⟨fun h => (by cases h), fun h => (by cases h), fun _ => h23.set _⟩, ⟨fun k h1 h2 => (Below.heap_setCell wz ⟨w.heap.size + 1, 0, none⟩ _ k (fun e => h2 e)).trans (hb3 k h1 h2), by simpa using hsz3, hos3, h13.other (by omega) _, _, h23.set _⟩, fun j v h => ⟨h.1, h.2.1, fun _ => h23.set _⟩⟩
    | k + 4, hi => exact absurd hi (by simp)
  case hfin3 =>
    intro listed ac wz hall hI3
    obtain ⟨hb3, hsz3, hos3, h13, u3, h23⟩ := hI3.held
    obtain ⟨v3, hv3⟩ := hI3.seen 3 _ rfl (hall 3 (by decide))
    have f2 := hI3.fix 2 (.pointer (some ⟨w.heap.size, 0, none⟩)) (by simp)
    have f3 := hI3.fix 3 (.pointer (some ⟨w.heap.size + 1, 0, none⟩)) (by simp)
    have hdf := hI3.df
    have hr2 := hv3.2.2 rfl
    have HZ := hide (And.intro hb3 (And.intro hsz3 (And.intro hos3 (And.intro h13 (And.intro hr2 (And.intro f2 f3))))))
    clear hI3 hall hb3 hsz3 hos3 h13 h23 hv3 hr2 f2 f3
    obtain ⟨tm, df⟩ := ac
    simp only at hdf
    subst hdf
    gi_wp2
    refine ⟨_, results_boxO rfl _ _ w.heap.size (w.heap.size + 1) (.pointer none) (.iface t6 (.pointer (some x6))) HZ.out.2.2.2.2.2.1 HZ.out.2.2.2.2.2.2 HZ.out.2.2.2.1 HZ.out.2.2.2.2.1, _, _, rfl, ⟨m1, ?_⟩, ?_⟩
    · exact Flt.mono (lo' := w.heap.size) (by omega) (HF.out.keep (fun k o v hk hc => (World.cell?_of_block (a := ⟨k, o, none⟩) (HZ.out.1 k (by omega) (by omega))).trans hc))
    · exact ⟨HZ.out.2.2.1.1.trans K1.out.2.os, HZ.out.2.2.1.2.1.trans K1.out.2.tape, HZ.out.2.2.1.2.2.trans K1.out.2.output, by rw [HZ.out.2.1]; exact K1.out.2.size, fun k hk => (HZ.out.1 k (by omega) (by omega)).trans (K1.out.2.block k hk)⟩
set_option maxRecDepth 100000 in
set_option maxHeartbeats 4000000 in
theorem dirCheck_one (w : World) (hg : ErrT w) : Calls Tryz.prog 17 #[.slice (some ⟨w.heap.size, 0, none⟩) 1 1] (w.alloc (.cells #[.int .u8 1] 5)) fun e w' => e = .returned (.int .i64 21) ∧ Below w.heap.size w w' := by
  have hr : Rd .u8 (w.alloc (.cells #[.int .u8 1] 5)) (.slice (some ⟨w.heap.size, 0, none⟩) 1 1) [1] := by
    refine ⟨some ⟨w.heap.size, 0, none⟩, 1, rfl, by unfold maxLen; simp, fun _ => ⟨w.heap.size, 0, rfl, by simp, fun i hi => ?_⟩, by simp, by unfold maxLen; simp⟩
    obtain rfl : i = 0 := by simp at hi; omega
    exact (Blk.new w #[.int .u8 1] 5).cell 0
  have HB0 := hide (show Below w.heap.size w (w.alloc (.cells #[.int .u8 1] 5)) from (Below.refl _ _).alloc (Nat.le_refl _) _)
  have HO := hide (openDir_odd 1 (some ⟨w.heap.size, 0, none⟩) [1] _ hr (by decide))
  have HG := hide hg
  clear hr hg
  go_enter Tryz.func17, Tryz.ntmps17
  go_wp2_with (go_at_call 36; fail)
  refine HO.out.mono ?_
  rintro e w1 ⟨v, ev, rfl, ⟨m, hF⟩, hb⟩
  have HB := hide (HB0.out.trans (hb.mono (by simp)))
  have HF := hide hF
  clear hb hF
  go_wp2_with (go_at_call 37; fail)
  refine (codeOf_any m _ 21 _ _ HF.out (HG.out.below HB.out)).mono ?_
  rintro e w2 ⟨rfl, b2⟩
  have HB2 := hide (HB.out.trans (b2.mono HB.out.size))
  clear b2
  go_wp2
  go_ret
  exact ⟨rfl, HB2.out⟩
end Go.Proofs.YtohmjfagbhnieaaGreatDoor

namespace Go.Proofs.YtohmjfagbhnieaaGreatDoor
set_option linter.unusedVariables false
set_option linter.unusedSimpArgs false
open Go.RowKit

theorem own_emptyL (w : World) (e : TypeId) (sz : Nat) : (w.alloc (.cells #[] e)).ownsRow w.heap.size e sz (.slice (some ⟨w.heap.size, 0, none⟩) 0 0) 0 [] :=
  ⟨by simp, .inr ⟨w.heap.size, 0, #[], rfl, Nat.le_refl _, heap_alloc_new w _, Nat.le_refl _, by simp, by simp, by simp⟩⟩
theorem run_append_emptyLU {P : Program} {w : World} (base : Nat) (t ty e : TypeId) (i : TypeInfo) (size : Nat) (ht : P.underlying t = some (.slice e)) (hi : P.info? e = some i)
    (v : Value) (n : Nat) (xs : List Value) (hown : w.ownsRow base e size v n xs) (a : Option Addr) (c : Nat) :
    (Builtin.append_ #[t, t] ty #[v, .slice a 0 c]).run P w = .ok v w := by
  rcases hown.2 with ⟨rfl, rfl⟩ | ⟨g, cap, cur, rfl, _, _, hnc, _⟩
  · cases a <;> simp [Builtin.append_, run_underlying ht, sizeOf, typeInfo, hi, Builtin.lenOf, Builtin.firstCells, loadCells, loadCellsFrom]
  · cases a <;> simp [Builtin.append_, run_underlying ht, sizeOf, typeInfo, hi, Builtin.lenOf, Builtin.firstCells, hnc, storeCells, loadCells, loadCellsFrom]
theorem wpList_append_emptyLU {P : Program} {w : World} {ops : Array Oper} {rest : List Oper} {o : Oper} {a : Act} {Q : Exit → Act → World → Prop} (hgd : o.guard = none) (s x : Operand) (t : TypeId)
    (ho : o.op = .call { callee := .builtin .append, args := #[s, x], argTypes := #[t, t] })
    (base : Nat) (e : TypeId) (i : TypeInfo) (size : Nat) (ht : P.underlying t = some (.slice e)) (hi : P.info? e = some i)
    (v : Value) (n : Nat) (xs : List Value) (hs : a.eval s = v) (hown : w.ownsRow base e size v n xs) (ad : Option Addr) (c : Nat) (hx : a.eval x = .slice ad 0 c)
    (h : wpList P ops Q rest (a.put o.dst v) w) : wpList P ops Q (o :: rest) a w := by
  refine wpList_plain hgd fun K hK => ?_
  have hrun := run_append_emptyLU (P := P) (w := w) base t o.type e i size ht hi v n xs hown ad c
  unfold Oper.wp
  simp [execOp, ho, resolve, invoke, builtin, hs, hx, hrun, Result.andThen]
  exact hK _ _ h
theorem wpList_append_copyL {P : Program} (w : World) {ops : Array Oper} {rest : List Oper} {o : Oper} {a : Act} {Q : Exit → Act → World → Prop}
    (hg : o.guard = none) (s x : Operand) (t : TypeId) (hop : o.op = Op.call { callee := Callee.builtin Builtin.append, args := #[s, x], argTypes := #[t, t] })
    (e : TypeId) (i : TypeInfo) (z : Value) (size bytes : Nat) (h1 : P.underlying t = some (.slice e)) (h2 : P.info? e = some i) (h3 : i.zero = some z) (h4 : i.size = size) (h5 : i.bytes = bytes) (h6 : z.cells.size = size) (h7 : 0 < size)
    (hs : a.eval s = .slice (some ⟨w.heap.size, 0, none⟩) 0 0) (ad : Option Addr) (m c : Nat) (xs : List Value) (hx : a.eval x = .slice ad m c) (hl : xs.length = m * size)
    (hr : 0 < m → ∃ bd off, ad = some ⟨bd, off, none⟩ ∧ bd < w.heap.size ∧ ∀ j u, xs[j]? = some u → w.cell? ⟨bd, off + j, none⟩ = some u) (hone : ∀ u ∈ xs, u.oneCell' = true) (hm : m ≤ maxLen) (hb : m * bytes ≤ 140737488355328)
    (hK : ∀ v' w', w'.ownsRow w.heap.size e size v' m xs → Below w.heap.size w w' → wpList P ops Q rest (a.put o.dst v') w') :
    wpList P ops Q (o :: rest) a (w.alloc (.cells #[] e)) := by
  have hB : Below w.heap.size w (w.alloc (.cells #[] e)) := (Below.refl _ _).alloc (Nat.le_refl _) _
  have hO := own_emptyL w e size
  by_cases hp : 0 < m
  · obtain ⟨bd, off, rfl, hbd, hc⟩ := hr hp
    refine append_fresh (w.alloc (.cells #[] e)) hg s x t hop w.heap.size e i z size bytes h1 h2 h3 h4 h5 h6 h7 _ 0 [] hs hO ⟨bd, off, none⟩ m c xs hx hl (fun j u hj => ?_) hone hp (by omega) (by rw [Nat.zero_add]; exact hb) (by simp) ?_
    · rw [Addr.add_mid]
      exact (hB.cell (p := ⟨bd, off + j, none⟩) hbd).trans (hc j u hj)
    · intro v' w' r1 r2 _
      rw [Nat.zero_add, List.nil_append] at r1
      exact hK v' w' r1 (hB.grown r2 hB.size (fun k e => by cases e; exact Nat.le_refl _))
  · obtain rfl : m = 0 := by omega
    have hx0 : xs = [] := List.eq_nil_of_length_eq_zero (by omega)
    subst hx0
    refine wpList_append_emptyLU hg s x t hop w.heap.size e i size h1 h2 _ 0 [] hs hO ad c hx ?_
    exact hK _ _ hO hB
theorem Rd.srcL {w : World} {a : Option Addr} {cap : Nat} {zs : List Int} (h : Rd .u8 w (.slice a zs.length cap) zs) : 0 < zs.length → ∃ bd off, a = some ⟨bd, off, none⟩ ∧ bd < w.heap.size ∧ ∀ j u, (zs.map (Value.int .u8))[j]? = some u → w.cell? ⟨bd, off + j, none⟩ = some u := by
  intro hn
  obtain ⟨bd, off, cp, e, hbw, _, _, hcell⟩ := h.partsC hn
  injection e with e1 e2 e3
  refine ⟨bd, off, e1, hbw, fun j u hu => ?_⟩
  rw [List.getElem?_map] at hu
  have hj : j < zs.length := by
    rcases Nat.lt_or_ge j zs.length with h | h
    · exact h
    · rw [List.getElem?_eq_none h] at hu; cases hu
  rw [hcell j hj]
  rw [List.getElem?_eq_getElem hj] at hu
  simp at hu
  rw [← hu]
  simp [List.getD, hj]
theorem cpL_any (v : Value) (zs : List Int) (w : World) (h : Rd .u8 w v zs) (hn : zs.length ≤ 262144) :
    Calls Tryz.prog 13 #[v] w fun e w' => ∃ v', e = .returned v' ∧ w'.ownsRow w.heap.size 5 1 v' zs.length (zs.map (Value.int .u8)) ∧ Below w.heap.size w w' := by
  obtain ⟨i0, hi, hz0, hz1, hz2⟩ := info_parts infoU8
  obtain ⟨a, cap, rfl⟩ : ∃ a cap, v = .slice a zs.length cap := by obtain ⟨a, cap, e, _⟩ := h; exact ⟨a, cap, e⟩
  have HR := hide h.srcL
  clear h
  go_enter Tryz.func13, Tryz.ntmps13
  go_wp2_with (first | (at_builtin; refine wpList_append_copyL w rfl (.tmp 3) (.tmp 4) 22 rfl 5 i0 (.int .u8 0) 1 1 Tryz.underlying22 hi hz0 hz1 hz2 rfl (by decide) rfl a zs.length cap (zs.map (Value.int .u8)) rfl (by simp) HR.out (ints_oneCell _ _) (by unfold maxLen; omega) (by omega) ?_; intro v1 w1 o1 b1; have O1 := hide o1; have B1 := hide b1; clear o1 b1) | fail)
  go_ret
  exact ⟨_, rfl, O1.out, B1.out⟩
theorem smL_any (v u : Value) (zs : List Int) (w : World) (h : Rd .u8 w v zs) (k : Rd .u8 w u zs) :
    Calls Tryz.prog 15 #[v, u] w fun e w' => e = .returned (.bool true) ∧ w' = w := by
  have H := hide h
  have K := hide k
  clear h k
  go_enter Tryz.func15, Tryz.ntmps15
  go_wp2_with (first | (refine wpList_convP rfl _ rfl v rfl zs H.out ?_) | (refine wpList_convP rfl _ rfl u rfl zs K.out ?_) | fail)
  go_ret
  exact ⟨by first | rfl | simp, rfl⟩
theorem size_nine (v : Value) (zs : List Int) (w : World) (h : Rd .u8 w v zs) (hn : zs.length ≤ 1048576) :
    Calls Tryz.prog 6 #[v, .int .i64 9] w fun e w' => ∃ r : Nat, e = .returned (.int .i64 (r : Int)) ∧ 2 ≤ r ∧ r ≤ 9 ∧ Below w.heap.size w w' := by
  obtain ⟨a, cap, rfl, _⟩ := h
  by_cases hb : (9 : Int) < 2 + (zs.length : Int) / 2
  · go_enter Tryz.func6, Tryz.ntmps6
    go_wp2
    go_ret
    exact ⟨9, rfl, by omega, Nat.le_refl _, Below.refl _ _⟩
  · go_enter Tryz.func6, Tryz.ntmps6
    go_wp2
    go_ret
    exact ⟨2 + zs.length / 2, by simp, by omega, by omega, Below.refl _ _⟩

end Go.Proofs.YtohmjfagbhnieaaGreatDoor

namespace Go.Proofs.YtohmjfagbhnieaaGreatDoor
set_option linter.unusedVariables false
set_option linter.unusedSimpArgs false
open Go.RowKit

theorem infoI64L : (Tryz.prog.info? 3).map (fun i => (i.zero, i.size, i.bytes)) = some (some (.int .i64 0), 1, 8) := by kernel_rfl
theorem infoOpL : (Tryz.prog.info? 30).map (fun i => (i.zero, i.size, i.bytes)) = some (some (.agg zeroOp), 8, 96) := by kernel_rfl
theorem cells_newO (w : World) (C : Array Value) (t : TypeId) : ∀ j u, C.toList[j]? = some u → (w.alloc (.cells C t)).cell? (Addr.add ⟨w.heap.size, 0, none⟩ j) = some u := by
  intro j u hj
  have h := (Blk.new w C t).cell j
  rw [Addr.add_mid, Nat.zero_add]
  rw [h]
  simpa using hj
/-- What is left of an operation behind L15Named: its bytes, in memory of their own. -/
theorem kept_data {wr : World} {g : Nat} {A B A' B' : Int} {p q q' : ByteArray} {va : Option Addr} {vn vc : Nat} {v' : Value} (hF : OpF wr g A B p q (.slice va vn vc)) (hk : Kept A B q (.slice va vn vc) A' B' q' v') :
    In64 A' ∧ In64 B' ∧ p.size ≤ 600 ∧ q'.size ≤ 600 ∧ ∃ ds : List Int, ds.length ≤ 4097 ∧ Byt ds ∧ wr.ownsRow g 5 1 v' ds.length (ds.map (Value.int .u8)) := by
  obtain ⟨h1, h2, h3, h4, zs, h5, h6, h7⟩ := hF
  refine ⟨?_, ?_, h3, ?_, ?_⟩
  · rcases hk.1 with rfl | rfl
    · exact h1
    · unfold In64; omega
  · rcases hk.2.1 with rfl | rfl
    · exact h2
    · unfold In64; omega
  · rcases hk.2.2.1 with rfl | rfl
    · exact h4
    · decide
  · rcases hk.2.2.2 with rfl | rfl
    · exact ⟨zs, h5, h6, h7⟩
    · exact ⟨[], by simp, Byt.nil, World.ownsRow_nil _ _ _ _⟩
theorem neO_cells (K A B : Int) (p q : ByteArray) (v : Value) (n : Nat) (ds : List Int) : (opC K A B 0 0 p q v).toList = (neO ⟨n, K, A, B, 0, 0, p, q, ds⟩).1 ++ [v] := rfl
theorem opC_oneL (K A B : Int) (p q : ByteArray) (a : Option Addr) (n c : Nat) : ∀ u ∈ (opC K A B 0 0 p q (.slice a n c)).toList, u.oneCell' = true := by
  intro u hu
  exact Array.all_eq_true_iff_forall_mem.1 (opC_one1 K A B 0 0 p q a n c) u (by simpa using hu)

end Go.Proofs.YtohmjfagbhnieaaGreatDoor
