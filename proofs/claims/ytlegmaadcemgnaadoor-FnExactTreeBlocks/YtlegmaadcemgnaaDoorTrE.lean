/- The model's l03Data and l03Fault. -/
import Derived.Test.YtlegmaadcemgnaaDoorTrD
import Derived.Test.YtlegmaadcemgnaaDoorSzA
import Derived.Test.YtlegmaadcemgnaaDoorRootE
import Derived.BigFrame
namespace Go.Proofs.YtlegmaadcemgnaaDoor
set_option linter.unusedVariables false
set_option linter.unusedSimpArgs false
open Go.RowKit

theorem wpList_load_rowG {P : Program} {ops : Array Oper} {rest : List Oper} {o : Oper} {a : Act} {w : World} {Q : Exit → Act → World → Prop} (hw : Region.wanted o (yielded ops a.tmps) = true) (ty : TypeId) (x : Operand) (ho : o.op = .load ty x)
    (g : Nat) (hx : a.eval x = .pointer (some ⟨g, 0, none⟩)) (t : TypeId) (cs : Array Value) (fr : Nat × Nat) (d : TypeDesc) (hg : w.heap[g]? = some (.cells cs t fr))
    (hu : P.underlying ty = some d) (hd : (match d with | .struct _ | .array _ _ => true | _ => false) = true) (hi : (P.info? ty).map (·.size) = some cs.size)
    (h : wpList P ops Q rest (a.put o.dst (.agg cs)) w) : wpList P ops Q (o :: rest) a w :=
  Go.BigFrame.wpList_want hw fun _ hK => wp_load_row ty x ho g hx t cs fr d hg hu hd hi (hK _ _ h)
/-- The bytes of data block p; a hole has zeros. -/
def datB (zs : List Int) (p : Int) : List Int := if p = 0 then List.replicate 512 0 else blkP zs p

set_option maxRecDepth 100000 in
set_option maxHeartbeats 1000000 in
theorem data3_any (v : Value) (zs : List Int) (p : Int) (w : World) (h : Rd .u8 w v zs) (h1 : zs.length ≤ 1048576) (hp : goodP (zs.length / 512) p = true) :
    Calls Tryd.prog 35 #[v, .int .i64 p] w fun e w' => ∃ v', e = .returned v' ∧ Rd .u8 w' v' (datB zs p) ∧ Below w.heap.size w w' := by
  obtain ⟨i0, hi, hz0, hz1, hz2⟩ := info_parts infoU8
  by_cases h0 : p = 0
  · subst h0
    obtain ⟨a, cap, rfl⟩ := rd_shapeT h
    clear h
    go_enter Tryd.func35, Tryd.ntmps35
    go_wp2_with (refine wpList_make_full _ rfl _ _ 22 rfl w.heap.size 5 i0 (.int .u8 0) 1 Tryd.underlying22 hi hz0 hz1 .i64 .i64 512 512 512 rfl rfl rfl rfl (by rw [hz2]; omega) (by unfold maxLen; omega) (Nat.le_refl _) ?_; intro w3 o3 g3; rw [made_one _ _ rfl] at o3; have O3 := hide (And.intro o3 g3); clear o3 g3)
    go_ret
    refine ⟨_, rfl, ?_, (Below.refl _ _).grown O3.out.2 (Nat.le_refl _) (fun k e => by cases e)⟩
    rw [show datB zs 0 = List.replicate 512 0 from if_pos rfl]
    have e : w3.ownsRow w.heap.size 5 1 (.slice (some ⟨w.heap.size, 0, none⟩) 512 512) 512 ((List.replicate 512 (0 : Int)).map (Value.int .u8)) := by rw [List.map_replicate]; exact O3.out.1
    exact Rd.own e
  · obtain ⟨h2, h3⟩ := good_pos hp h0
    obtain ⟨q, rfl⟩ : ∃ q : Nat, p = (q : Int) := ⟨p.toNat, by omega⟩
    obtain ⟨b, off, cap, rfl, hb, hlc, hcm, hcell⟩ := h.partsC (by omega)
    obtain ⟨A, hA⟩ : ∃ A : Nat, A = q * 512 := ⟨_, rfl⟩
    have hA1 : (q : Int) * 512 = (A : Int) := by omega
    obtain ⟨B, hB⟩ : ∃ B : Nat, B = A + 512 := ⟨_, rfl⟩
    have hA2 : ((q : Int) + 1) * 512 = (B : Int) := by omega
    have hAB : B ≤ zs.length := by omega
    have HP := hide (show Rd .u8 w (.slice (some ⟨b, off + A, none⟩) 512 (cap - A)) (blkP zs (q : Int)) from by unfold blkP; rw [Int.toNat_natCast, ← hA]; exact Rd.cut2 A 512 h (by omega) (by omega))
    have hB3 : (A : Int) ≤ (B : Int) := by omega
    have hB4 : (B : Int) ≤ (cap : Int) := by omega
    have hB5 : B - A = 512 := by omega
    have hq : (q : Int) < 4096 := by omega
    clear h hcell hA hB
    go_enter Tryd.func35, Tryd.ntmps35
    go_wp2
    go_ret
    refine ⟨_, rfl, ?_, Below.refl _ _⟩
    rw [show datB zs (q : Int) = blkP zs (q : Int) from if_neg h0]
    exact HP.out
/-- What is wrong with the image or the root. -/
def faultT (zs : List Int) (s : Int) (ds : List Int) (p q : Int) : Int := if szOk zs.length = true ∧ rightR s ds p q = true then 0 else 7
set_option maxRecDepth 100000 in
set_option maxHeartbeats 1000000 in
theorem fault3_any (v : Value) (zs : List Int) (s : Int) (ds : List Int) (p q : Int) (w : World) (h : Rd .u8 w v zs) (h1 : zs.length ≤ 1048576) (hd : ds.length = 12) :
    Calls Tryd.prog 33 #[v, .agg (cellsI (rootI s ds p q))] w fun e w' => e = .returned (.int .i64 (faultT zs s ds p q)) ∧ Below w.heap.size w w' := by
  have HD := hide hd
  have HZ := hide (show (cellsI (rootI s ds p q)).size = 15 from by rw [cellsI_size]; exact rootI_len s ds p q HD.out)
  have hb0 : Below w.heap.size w (w.alloc (.cells (cellsI (rootI s ds p q)) 34)) := (Below.refl _ _).alloc (Nat.le_refl _) _
  have HB0 := hide hb0
  obtain ⟨a, cap, rfl⟩ := rd_shapeT h
  have HR := hide h
  clear hd hb0 h
  cases hsz : szOk zs.length with
  | false =>
    have HS := hide hsz
    clear hsz
    go_enter Tryd.func33, Tryd.ntmps33
    go_wp2_with fail
    refine (blocks_any _ zs _ (HR.out.below HB0.out) (by omega)).mono ?_
    rintro e w1 ⟨rfl, rfl⟩
    rw [HS.out]
    go_wp2
    go_ret
    exact ⟨by unfold faultT; rw [HS.out, if_neg (by simp)]; rfl, HB0.out⟩
  | true =>
    have HS := hide hsz
    have hn : ((zs.length / 512 : Nat) : Int) ≠ 0 := by unfold szOk at hsz; simp at hsz; omega
    obtain ⟨n, hn2⟩ : ∃ n : Nat, zs.length / 512 = n := ⟨_, rfl⟩
    rw [hn2] at hn
    have hn3 : ((n : Int) == 0) = false := by simp; omega
    have HN := hide hn2
    clear hsz hn2
    go_enter Tryd.func33, Tryd.ntmps33
    go_wp2_with fail
    refine (blocks_any _ zs _ (HR.out.below HB0.out) (by omega)).mono ?_
    rintro e w1 ⟨rfl, rfl⟩
    rw [HS.out, HN.out, if_pos rfl]
    go_wp2_with (refine wpList_load_rowG (by rfl) 34 _ rfl w.heap.size rfl 34 (cellsI (rootI s ds p q)) (0, 0) _ (Blk.new w _ _) Tryd.underlying34 rfl (by rw [HZ.out]; exact info15) ?_)
    refine (l02Root_any s ds p q _ HD.out).mono ?_
    rintro e w1 ⟨rfl, b1⟩
    have HB1 := hide (HB0.out.trans (b1.mono HB0.out.size))
    clear b1
    cases hr : rightR s ds p q with
    | false =>
      have HR2 := hide hr
      clear hr
      go_wp2
      go_ret
      exact ⟨by unfold faultT; rw [HR2.out, if_neg (by simp)]; rfl, HB1.out⟩
    | true =>
      have HR2 := hide hr
      clear hr
      go_wp2
      go_ret
      exact ⟨by unfold faultT; rw [HR2.out, HS.out, if_pos ⟨rfl, rfl⟩]; rfl, HB1.out⟩
end Go.Proofs.YtlegmaadcemgnaaDoor
