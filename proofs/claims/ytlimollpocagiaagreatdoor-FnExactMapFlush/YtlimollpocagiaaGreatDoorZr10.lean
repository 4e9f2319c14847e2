/- An image's size: rightInSize of the program, L01Blocks of the model. The model's l03Data and l03Fault. The program's look at a root: isPointer, blocksOf, pointersFault, rootFault. -/
import Derived.Test.YtlimollpocagiaaGreatDoorZr09
import Derived.Test.YtlimollpocagiaaGreatDoorZr02
import Derived.Test.YtlimollpocagiaaGreatDoorZr08
import Derived.BigFrame
import Derived.Test.YtlimollpocagiaaGreatDoorZr03
import Derived.Test.YtlimollpocagiaaGreatDoorZr06
namespace Go.Proofs.YtlimollpocagiaaGreatDoor
set_option linter.unusedVariables false
set_option linter.unusedSimpArgs false
open Go.RowKit

/-- An image of so many bytes is right in size. -/
def szOk (n : Nat) : Bool := decide (n % 512 = 0) && (decide (64 ≤ n / 512) && decide (n / 512 ≤ 2048))
theorem rightInSize_any (v : Value) (zs : List Int) (w : World) (h : Rd .u8 w v zs) (hz : zs.length ≤ 140737488355328) :
    Calls Tryz.prog 85 #[v] w fun e w' => e = .returned (.bool (szOk zs.length)) ∧ w = w' := by
  obtain ⟨a, cap, rfl⟩ : ∃ a cap, v = .slice a zs.length cap := by obtain ⟨a, cap, h1, _⟩ := h; exact ⟨a, cap, h1⟩
  clear h
  generalize zs.length = n at hz ⊢
  by_cases h1 : n % 512 = 0
  · have hq1 : ((n : Int) % 512 == 0) = true := by simp; omega
    by_cases h2 : 64 ≤ n / 512
    · have hq2 : decide ((64 : Int) ≤ (n : Int) / 512) = true := by simp; omega
      have HR := hide (show szOk n = decide ((n : Int) / 512 ≤ 2048) from by unfold szOk; rw [decide_eq_true h1, decide_eq_true h2, Bool.true_and, Bool.true_and, decide_eq_decide]; omega)
      clear h1 h2
      go_enter Tryz.func85, Tryz.ntmps85
      go_wp2
      go_ret
      exact ⟨ret_bool (by rw [HR.out]), rfl⟩
    · have hq2 : decide ((64 : Int) ≤ (n : Int) / 512) = false := by simp; omega
      have HR := hide (show szOk n = false from by unfold szOk; rw [decide_eq_false h2, Bool.false_and, Bool.and_false])
      clear h1 h2
      go_enter Tryz.func85, Tryz.ntmps85
      go_wp2
      go_ret
      exact ⟨ret_bool (by first | rfl | rw [HR.out]), rfl⟩
  · have hq1 : ((n : Int) % 512 == 0) = false := by simp; omega
    have HR := hide (show szOk n = false from by unfold szOk; rw [decide_eq_false h1, Bool.false_and])
    clear h1
    go_enter Tryz.func85, Tryz.ntmps85
    go_wp2
    go_ret
    exact ⟨ret_bool (by first | rfl | rw [HR.out]), rfl⟩
theorem blocks_any (v : Value) (zs : List Int) (w : World) (h : Rd .u8 w v zs) (hz : zs.length ≤ 140737488355328) :
    Calls Tryz.prog 30 #[v] w fun e w' => e = .returned (.int .i64 (if szOk zs.length = true then ((zs.length / 512 : Nat) : Int) else 0)) ∧ w = w' := by
  obtain ⟨a, cap, rfl⟩ : ∃ a cap, v = .slice a zs.length cap := by obtain ⟨a, cap, h1, _⟩ := h; exact ⟨a, cap, h1⟩
  clear h
  generalize zs.length = n at hz ⊢
  obtain ⟨m, hm⟩ : ∃ m, m = n / 512 := ⟨_, rfl⟩
  have e1 : (n : Int) / 512 = (m : Int) := by omega
  rw [← hm]
  by_cases h1 : n % 512 = 0
  · have hq1 : (((m : Int) * 512) != (n : Int)) = false := by simp; omega
    by_cases h2 : 64 ≤ n / 512
    · have hq2 : decide ((m : Int) < 64) = false := by simp; omega
      by_cases h3 : n / 512 ≤ 2048
      · have hq3 : decide ((2048 : Int) < (m : Int)) = false := by simp; omega
        have HR := hide (show (if szOk n = true then ((m : Nat) : Int) else 0) = (m : Int) from by unfold szOk; rw [decide_eq_true h1, decide_eq_true h2, decide_eq_true h3]; rfl)
        rw [HR.out]
        have hm9 : m ≤ 2048 := by omega
        clear h1 h2 h3 hm
        go_enter Tryz.func30, Tryz.ntmps30
        go_wp2
        go_ret
        exact ⟨rfl, rfl⟩
      · have hq3 : decide ((2048 : Int) < (m : Int)) = true := by simp; omega
        have HR := hide (show (if szOk n = true then ((m : Nat) : Int) else 0) = 0 from by unfold szOk; rw [decide_eq_false h3, Bool.and_false, Bool.and_false]; rfl)
        rw [HR.out]
        have hm9 : m ≤ 300000000000 := by omega
        clear h1 h2 h3 hm
        go_enter Tryz.func30, Tryz.ntmps30
        go_wp2
        go_ret
        exact ⟨rfl, rfl⟩
    · have hq2 : decide ((m : Int) < 64) = true := by simp; omega
      have HR := hide (show (if szOk n = true then ((m : Nat) : Int) else 0) = 0 from by unfold szOk; rw [decide_eq_false h2, Bool.false_and, Bool.and_false]; rfl)
      rw [HR.out]
      have hm9 : m ≤ 2048 := by omega
      clear h1 h2 hm
      go_enter Tryz.func30, Tryz.ntmps30
      go_wp2
      go_ret
      exact ⟨rfl, rfl⟩
  · have hq1 : (((m : Int) * 512) != (n : Int)) = true := by simp; omega
    have HR := hide (show (if szOk n = true then ((m : Nat) : Int) else 0) = 0 from by unfold szOk; rw [decide_eq_false h1, Bool.false_and]; rfl)
    rw [HR.out]
    have hm9 : m ≤ 300000000000 := by omega
    clear h1 hm
    go_enter Tryz.func30, Tryz.ntmps30
    go_wp2
    go_ret
    exact ⟨rfl, rfl⟩
end Go.Proofs.YtlimollpocagiaaGreatDoor

namespace Go.Proofs.YtlimollpocagiaaGreatDoor
set_option linter.unusedVariables false
set_option linter.unusedSimpArgs false
open Go.RowKit

theorem wpList_load_rowG {P : Program} {ops : Array Oper} {rest : List Oper} {o : Oper} {a : Act} {w : World} {Q : Exit → Act → World → Prop} (hw : Region.wanted o (yielded ops a.tmps) = true) (ty : TypeId) (x : Operand) (ho : o.op = .load ty x)
    (g : Nat) (hx : a.eval x = .pointer (some ⟨g, 0, none⟩)) (t : TypeId) (cs : Array Value) (fr : Nat × Nat) (d : TypeDesc) (hg : w.heap[g]? = some (.cells cs t fr))
    (hu : P.underlying ty = some d) (hd : (match d with | .struct _ | .array _ _ => true | _ => false) = true) (hi : (P.info? ty).map (·.size) = some cs.size)
    (h : wpList P ops Q rest (a.put o.dst (.agg cs)) w) : wpList P ops Q (o :: rest) a w :=
  Go.BigFrame.wpList_want hw fun _ hK => wp_load_row ty x ho g hx t cs fr d hg hu hd hi (hK _ _ h)
/-- The bytes of data block p; a hole has zeros. -/
def datB (zs : List Int) (p : Int) : List Int := if p = 0 then List.replicate 512 0 else blkP zs p

set_option maxRecDepth 100000 in
set_option maxHeartbeats 1000000 in
theorem data3_any (v : Value) (zs : List Int) (p : Int) (w : World) (h : Rd .u8 w v zs) (h1 : zs.length ≤ 1048576) (hp : goodP (zs.length / 512) p = true) :
    Calls Tryz.prog 81 #[v, .int .i64 p] w fun e w' => ∃ v', e = .returned v' ∧ Rd .u8 w' v' (datB zs p) ∧ Below w.heap.size w w' := by
  obtain ⟨i0, hi, hz0, hz1, hz2⟩ := info_parts infoU8
  by_cases h0 : p = 0
  · subst h0
    obtain ⟨a, cap, rfl⟩ := rd_shapeT h
    clear h
    go_enter Tryz.func81, Tryz.ntmps81
    go_wp2_with (refine wpList_make_full _ rfl _ _ 22 rfl w.heap.size 5 i0 (.int .u8 0) 1 Tryz.underlying22 hi hz0 hz1 .i64 .i64 512 512 512 rfl rfl rfl rfl (by rw [hz2]; omega) (by unfold maxLen; omega) (Nat.le_refl _) ?_; intro w3 o3 g3; rw [made_one _ _ rfl] at o3; have O3 := hide (And.intro o3 g3); clear o3 g3)
    go_ret
    refine ⟨_, rfl, ?_, (Below.refl _ _).grown O3.out.2 (Nat.le_refl _) (fun k e => by cases e)⟩
    rw [show datB zs 0 = List.replicate 512 0 from if_pos rfl]
    have e : w3.ownsRow w.heap.size 5 1 (.slice (some ⟨w.heap.size, 0, none⟩) 512 512) 512 ((List.replicate 512 (0 : Int)).map (Value.int .u8)) := by rw [List.map_replicate]; exact O3.out.1
    exact Rd.own e
  · obtain ⟨h2, h3⟩ := good_pos hp h0
    obtain ⟨q, rfl⟩ : ∃ q : Nat, p = (q : Int) := ⟨p.toNat, by omega⟩
    obtain ⟨b, off, cap, rfl, hb, hlc, hcm, hcell⟩ := h.partsC (by omega)
    obtain ⟨A, hA⟩ : ∃ A : Nat, A = q * 512 := ⟨_, rfl⟩
    have hA1 : (q : Int) * 512 = (A : Int) := by omega
    obtain ⟨B, hB⟩ : ∃ B : Nat, B = A + 512 := ⟨_, rfl⟩
    have hA2 : ((q : Int) + 1) * 512 = (B : Int) := by omega
    have hAB : B ≤ zs.length := by omega
    have HP := hide (show Rd .u8 w (.slice (some ⟨b, off + A, none⟩) 512 (cap - A)) (blkP zs (q : Int)) from by unfold blkP; rw [Int.toNat_natCast, ← hA]; exact Rd.cut2 A 512 h (by omega) (by omega))
    have hB3 : (A : Int) ≤ (B : Int) := by omega
    have hB4 : (B : Int) ≤ (cap : Int) := by omega
    have hB5 : B - A = 512 := by omega
    have hq : (q : Int) < 4096 := by omega
    clear h hcell hA hB
    go_enter Tryz.func81, Tryz.ntmps81
    go_wp2
    go_ret
    refine ⟨_, rfl, ?_, Below.refl _ _⟩
    rw [show datB zs (q : Int) = blkP zs (q : Int) from if_neg h0]
    exact HP.out
/-- What is wrong with the image or the root. -/
def faultT (zs : List Int) (s : Int) (ds : List Int) (p q : Int) : Int := if szOk zs.length = true ∧ rightR s ds p q = true then 0 else 7
set_option maxRecDepth 100000 in
set_option maxHeartbeats 1000000 in
theorem fault3_any (v : Value) (zs : List Int) (s : Int) (ds : List Int) (p q : Int) (w : World) (h : Rd .u8 w v zs) (h1 : zs.length ≤ 1048576) (hd : ds.length = 12) :
    Calls Tryz.prog 46 #[v, .agg (cellsI (rootI s ds p q))] w fun e w' => e = .returned (.int .i64 (faultT zs s ds p q)) ∧ Below w.heap.size w w' := by
  have HD := hide hd
  have HZ := hide (show (cellsI (rootI s ds p q)).size = 15 from by rw [cellsI_size]; exact rootI_len s ds p q HD.out)
  have hb0 : Below w.heap.size w (w.alloc (.cells (cellsI (rootI s ds p q)) 28)) := (Below.refl _ _).alloc (Nat.le_refl _) _
  have HB0 := hide hb0
  obtain ⟨a, cap, rfl⟩ := rd_shapeT h
  have HR := hide h
  clear hd hb0 h
  cases hsz : szOk zs.length with
  | false =>
    have HS := hide hsz
    clear hsz
    go_enter Tryz.func46, Tryz.ntmps46
    go_wp2_with fail
    refine (blocks_any _ zs _ (HR.out.below HB0.out) (by omega)).mono ?_
    rintro e w1 ⟨rfl, rfl⟩
    rw [HS.out]
    go_wp2
    go_ret
    exact ⟨by unfold faultT; rw [HS.out, if_neg (by simp)]; rfl, HB0.out⟩
  | true =>
    have HS := hide hsz
    have hn : ((zs.length / 512 : Nat) : Int) ≠ 0 := by unfold szOk at hsz; simp at hsz; omega
    obtain ⟨n, hn2⟩ : ∃ n : Nat, zs.length / 512 = n := ⟨_, rfl⟩
    rw [hn2] at hn
    have hn3 : ((n : Int) == 0) = false := by simp; omega
    have HN := hide hn2
    clear hsz hn2
    go_enter Tryz.func46, Tryz.ntmps46
    go_wp2_with fail
    refine (blocks_any _ zs _ (HR.out.below HB0.out) (by omega)).mono ?_
    rintro e w1 ⟨rfl, rfl⟩
    rw [HS.out, HN.out, if_pos rfl]
    go_wp2_with (refine wpList_load_rowG (by rfl) 28 _ rfl w.heap.size rfl 28 (cellsI (rootI s ds p q)) (0, 0) _ (Blk.new w _ _) Tryz.underlying28 rfl (by rw [HZ.out]; exact info15) ?_)
    refine (l02Root_any s ds p q _ HD.out).mono ?_
    rintro e w1 ⟨rfl, b1⟩
    have HB1 := hide (HB0.out.trans (b1.mono HB0.out.size))
    clear b1
    cases hr : rightR s ds p q with
    | false =>
      have HR2 := hide hr
      clear hr
      go_wp2
      go_ret
      exact ⟨by unfold faultT; rw [HR2.out, if_neg (by simp)]; rfl, HB1.out⟩
    | true =>
      have HR2 := hide hr
      clear hr
      go_wp2
      go_ret
      exact ⟨by unfold faultT; rw [HR2.out, HS.out, if_pos ⟨rfl, rfl⟩]; rfl, HB1.out⟩
end Go.Proofs.YtlimollpocagiaaGreatDoor

namespace Go.Proofs.YtlimollpocagiaaGreatDoor
set_option linter.unusedVariables false
set_option linter.unusedSimpArgs false
open Go.RowKit

theorem isBlock_any (x n : Int) (w : World) : Calls Tryz.prog 59 #[.int .i64 x, .int .i64 n] w fun e w' => e = .returned (.bool (decide (2 ≤ x) && decide (x < n))) ∧ w = w' := by
  by_cases h2 : 2 ≤ x
  · have HR := hide (show (decide (2 ≤ x) && decide (x < n)) = decide (x < n) from by simp [h2])
    go_enter Tryz.func59, Tryz.ntmps59
    go_wp2
    go_ret
    exact ⟨ret_bool (by rw [HR.out]), rfl⟩
  · have hq2 : decide (2 ≤ x) = false := by simp; omega
    have HR := hide (show (decide (2 ≤ x) && decide (x < n)) = false from by rw [hq2]; rfl)
    go_enter Tryz.func59, Tryz.ntmps59
    go_wp2
    go_ret
    exact ⟨ret_bool (by first | rfl | rw [HR.out]), rfl⟩
theorem isPointer_any (x n : Int) (w : World) : Calls Tryz.prog 120 #[.int .i64 x, .int .i64 n] w fun e w' => e = .returned (.bool (ptrB x n)) ∧ w = w' := by
  have HP := hide (show ptrB x n = (decide (x = 0) || (decide (2 ≤ x) && decide (x < n))) from rfl)
  by_cases h0 : x = 0
  · subst h0
    go_enter Tryz.func120, Tryz.ntmps120
    go_wp2
    go_ret
    exact ⟨rfl, rfl⟩
  · have hq : (x == 0) = false := by simp [h0]
    have HD := hide (show ptrB x n = (decide (2 ≤ x) && decide (x < n)) from by rw [HP.out]; simp [h0])
    clear h0
    go_enter Tryz.func120, Tryz.ntmps120
    go_wp2_with (go_at_call 59; refine (isBlock_any x n _).mono ?_; rintro e w' ⟨rfl, rfl⟩)
    go_ret
    exact ⟨ret_bool (by rw [HD.out]), rfl⟩

theorem blocksOf_out (x : Int) (w : World) : Calls Tryz.prog 49 #[.int .i64 x] w fun e w' => (∃ y, e = .returned (.int .i64 y) ∧ (0 ≤ x → x ≤ 262144 → y = (x + 511) / 512)) ∧ w = w' := by
  by_cases h0 : 0 ≤ x ∧ x ≤ 262144
  · obtain ⟨h0, h1⟩ := h0
    have h2 : x / 512 ≤ 512 := by omega
    have h3 : 0 ≤ x / 512 := by omega
    by_cases hr : x % 512 = 0
    · have hq : (x % 512 != 0) = false := by simp [hr]
      have HR := hide hr
      clear hr
      go_enter Tryz.func49, Tryz.ntmps49
      go_wp2
      go_ret
      exact ⟨⟨x / 512, rfl, fun _ _ => by have := HR.out; omega⟩, rfl⟩
    · have hq : (x % 512 != 0) = true := by simpa using hr
      have HR := hide hr
      clear hr
      go_enter Tryz.func49, Tryz.ntmps49
      go_wp2
      go_ret
      exact ⟨⟨x / 512 + 1, rfl, fun _ _ => by have := HR.out; omega⟩, rfl⟩
  · have H := hide h0
    clear h0
    go_enter Tryz.func49, Tryz.ntmps49
    go_wp2
    all_goals go_ret
    all_goals exact ⟨⟨_, rfl, fun a b => absurd ⟨a, b⟩ H.out⟩, rfl⟩

theorem index12 (ds : List Int) (k : Nat) (hd : ds.length = 12) (hk : k < 12) (w : World) : (Instr.index 26 (.agg (cellsI ds)) (.int .i64 k)).run Tryz.prog w = .ok (.int .i64 (ds.getD k 0)) w := by
  have hg : k < ds.length := by omega
  simp [Instr.index, run_underlying Tryz.underlying26, asIntOf, go_sem, cellsI, hg]
  intro h
  omega
theorem all_take' (f : Int → Bool) (ds : List Int) (k : Nat) (h : k < ds.length) : (ds.take (k + 1)).all f = ((ds.take k).all f && f (ds.getD k 0)) := by
  rw [List.take_succ_eq_append_getElem h, List.all_append]
  simp [List.getD, h]
/-- What the loops keep: the boxed root, the check, and all that is older. -/
structure Kp (w wr : World) (C : Array Value) (t : TypeId) (code : Int) (ok : Bool) : Prop where
  blk : Blk wr w.heap.size C t
  ck : Ck wr (w.heap.size + 1) (w.heap.size + 1 + 1) code ok
  old : Below w.heap.size w wr
theorem Kp.lo {w wr : World} {C : Array Value} {t : TypeId} {code : Int} {ok : Bool} (h : Kp w wr C t code ok) : w.heap.size + 1 + 1 ≤ wr.heap.size := h.ck.lt
theorem Kp.tch {w wr w' : World} {C : Array Value} {t : TypeId} {code : Int} {ok ok' : Bool} (h : Kp w wr C t code ok) (hc : Ck w' (w.heap.size + 1) (w.heap.size + 1 + 1) code ok') (ht : Tch (w.heap.size + 1) wr w') : Kp w w' C t code ok' :=
  ⟨(ht.1.block _ h.blk.lt (by simp)).trans h.blk, hc, ht.under h.old (by omega) (Nat.le_of_lt h.blk.lt)⟩
theorem Kp.fault {w wr : World} {C : Array Value} {t : TypeId} {code : Int} {ok : Bool} (h : Kp w wr C t code ok) : ∃ ev, wr.cell? ⟨w.heap.size + 1, 1, none⟩ = some ev ∧ FaultIs wr w.heap.size ok ev code := by
  obtain ⟨_, _, ev, c3, c4⟩ := h.ck
  refine ⟨ev, c3, ?_⟩
  rcases c4 with c4 | ⟨c4, n, c5⟩
  · exact .inl c4
  · exact .inr ⟨c4, n, c5.mono (by omega)⟩

def ptrsB (ds : List Int) (p q n : Int) : Bool := (ds.all fun x => ptrB x n) && ptrB p n && ptrB q n

set_option maxRecDepth 100000 in
set_option maxHeartbeats 1000000 in
theorem pointersFault_any (s : Int) (ds : List Int) (p q n code : Int) (w : World) (hd : ds.length = 12) :
    Calls Tryz.prog 108 #[.agg (cellsI (rootI s ds p q)), .int .i64 n, .int .i64 code] w fun e w' => ∃ ev, e = .returned ev ∧ FaultIs w' w.heap.size (ptrsB ds p q n) ev code ∧ Below w.heap.size w w' := by
  have HD := hide hd
  have kB := (Blk.new w (cellsI (rootI s ds p q)) 28).alloc (.cells #[.int .i64 code, .nilIface] 100)
  have kC := Ck.fresh (w.alloc (.cells (cellsI (rootI s ds p q)) 28)) code 100
  rw [World.size_alloc] at kC
  have hb0 : Below w.heap.size w ((w.alloc (.cells (cellsI (rootI s ds p q)) 28)).alloc (.cells #[.int .i64 code, .nilIface] 100)) := ((Below.refl _ _).alloc (Nat.le_refl _) _).alloc (by simp) _
  have hr := kB.range 1 12 (by rw [rootI_len _ _ _ _ HD.out]; omega)
  rw [root_range _ _ _ _ HD.out] at hr
  have HX := hide (fun k hk w => index12 ds k HD.out hk w)
  have K := hide (show Kp w ((w.alloc (.cells (cellsI (rootI s ds p q)) 28)).alloc (.cells #[.int .i64 code, .nilIface] 100)) (cellsI (rootI s ds p q)) 28 code true from ⟨kB, kC, hb0⟩)
  have HR := hide hr
  clear hd kB kC hb0 hr
  go_enter Tryz.func108, Tryz.ntmps108
  go_wp2_with (refine wpList_load_mid rfl 26 _ rfl w.heap.size 1 rfl (ds.map (Value.int .i64)) _ HR.out Tryz.underlying26 rfl (by rw [List.length_map, HD.out]; exact info12) ?_)
  go_loopw [14] (fun i wr => ∃ k : Nat, k ≤ 12 ∧ i = .int .i64 k ∧ Kp w wr (cellsI (rootI s ds p q)) 28 code ((ds.take k).all fun x => ptrB x n)) (fun i _ => 12 - (intOf i).toNat)
  case atStart => exact ⟨0, by omega, rfl, K.out⟩
  case round =>
    obtain ⟨k, hk, rfl, hkp⟩ := hrel
    have HK := hide hkp
    clear hkp K HR
    by_cases hlt : k < 12
    · have hix : ∀ w, (Instr.index 26 (.agg (ds.map (Value.int .i64)).toArray) (.int .i64 k)).run Tryz.prog w = .ok (.int .i64 (ds.getD k 0)) w := fun w => HX.out k hlt w
      have HT := hide (all_take' (fun x => ptrB x n) ds k (by rw [HD.out]; exact hlt))
      generalize ds.getD k 0 = z at hix HT
      go_wp2_with (first | (go_at_call 120; refine (isPointer_any z n _).mono ?_; rintro e w1 ⟨rfl, rfl⟩) | (go_at_call 58; refine (need_any (w.heap.size + 1) (w.heap.size + 1 + 1) _ code _ (ptrB z n) _ HK.out.ck (by omega) HK.out.lo).mono ?_; rintro e w1 ⟨rfl, hc1, ht1⟩))
      have H1 := hide (HK.out.tch hc1 ht1)
      clear hc1 ht1
      go_roundw
      case rel => exact ⟨k + 1, by omega, by go_num, by rw [HT.out]; exact H1.out⟩
      case measure => simp [intOf]; omega
    · have e12 : k = 12 := by omega
      subst e12
      rw [List.take_of_length_le (by rw [HD.out]; omega)] at HK
      have a13 := (HK.out.blk.cell 13).trans (rootI_get13 s ds p q HD.out)
      have lt1 := HK.out.lo
      go_wp2_with (first | (go_at_call 120; refine (isPointer_any p n _).mono ?_; rintro e w1 ⟨rfl, rfl⟩) | (go_at_call 58; fail))
      refine (need_any (w.heap.size + 1) (w.heap.size + 1 + 1) _ code _ (ptrB p n) _ HK.out.ck (by omega) HK.out.lo).mono ?_
      rintro e w1 ⟨rfl, hc1, ht1⟩
      have H1 := hide (HK.out.tch hc1 ht1)
      have a14 := (H1.out.blk.cell 14).trans (rootI_get14 s ds p q HD.out)
      clear hc1 ht1 a13 lt1
      go_wp2_with (first | (go_at_call 120; refine (isPointer_any q n _).mono ?_; rintro e w1' ⟨rfl, rfl⟩) | (go_at_call 58; fail))
      refine (need_any (w.heap.size + 1) (w.heap.size + 1 + 1) _ code _ (ptrB q n) _ H1.out.ck (by omega) H1.out.lo).mono ?_
      rintro e w2 ⟨rfl, hc2, ht2⟩
      have H2 := hide (H1.out.tch hc2 ht2)
      obtain ⟨ev, c3, hf⟩ := H2.out.fault
      have HF := hide hf
      clear hc2 ht2 a14 hf
      go_wp2
      go_ret
      exact ⟨ev, rfl, HF.out, H2.out.old⟩

/-- The program's own way of saying rightR. -/
def rightI (s : Int) (ds : List Int) (p q y : Int) : Bool :=
  (((((decide (0 ≤ s) && decide (s ≤ 262144)) && ptrsB ds p q 2048) && ((List.range 12).all fun i => decide (ds.getD i 0 = 0) || decide ((i : Int) < y))) && (decide (p = 0) || decide (12 < y))) && (decide (q = 0) || decide (140 < y)))
theorem right_eq (s : Int) (ds : List Int) (p q y : Int) (hd : ds.length = 12) (hy : 0 ≤ s → s ≤ 262144 → y = (s + 511) / 512) : rightI s ds p q y = rightR s ds p q := by
  unfold rightI rightR
  by_cases h1 : 0 ≤ s
  · by_cases h2 : s ≤ 262144
    · rw [hy h1 h2]
      match ds, hd with
      | [d0, d1, d2, d3, d4, d5, d6, d7, d8, d9, d10, d11], _ =>
        simp [ptrsB, allR, okAt, lst, h1, h2, List.range, List.range.loop, List.getD]
        ac_rfl
    · simp [h2]
  · simp [h1]
end Go.Proofs.YtlimollpocagiaaGreatDoor
