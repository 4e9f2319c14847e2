/- A root that came in, opened: fifteen integers (as RootO, with no law beside it). The law on TreeRead holds for every input: the program's answer is the model's, it writes into no argument, its answer owns its memory; so the law answers true and the arguments read as before. Condition: errors.errorType holds what the program's own start lays there (the card ties it to the text). -/
import Derived.Test.YtlegmaadcemgnaaDoorRootB
import Derived.Test.YtlegmaadcemgnaaDoorOpen
import Derived.ProofKit
import Derived.OpenShut
import Derived.Test.YtlegmaadcemgnaaDoorCards
import Derived.Test.YtlegmaadcemgnaaDoorTie
import Derived.Test.YtlegmaadcemgnaaDoorDoor
import Derived.Test.YtlegmaadcemgnaaDoorLawTrr
namespace Go.Proofs.YtlegmaadcemgnaaDoor
set_option linter.unusedVariables false
set_option linter.unusedSimpArgs false
open Go.ChangeShapes Go.WideShapes Go.ChangeAt Go.RowKit

theorem root_of_list (rs : List Int) (h : rs.length = 15) : ∃ s ds p q, ds.length = 12 ∧ rs = rootI s ds p q := by
  match rs, h with
  | [s, d0, d1, d2, d3, d4, d5, d6, d7, d8, d9, d10, d11, p, q], _ => exact ⟨s, [d0, d1, d2, d3, d4, d5, d6, d7, d8, d9, d10, d11], p, q, rfl, rfl⟩
set_option maxRecDepth 100000 in
/-- A root that came in is fifteen integers. -/
theorem open_root {H : Type} {enc : TypeId × Value → H} {W : World} {r : Reach} {b0 base : Nat} {spare : TypeId → Bool} {held : Bool} {v : Value} {d : DataW H} {pl : List MemPlace} (hv : Value.okWide Tryd.prog W r b0 43 v) (h : DataW.Trod enc Tryd.prog W base spare held 43 v d pl) :
    ∃ s ds p q, ds.length = 12 ∧ v = .agg (cellsI (rootI s ds p q)) := by
  obtain ⟨cs, rfl, hsz⟩ := Go.WideShapes.okWide_struct Tryd.underlying43 hv
  rw [cellsL15] at hsz
  obtain ⟨fuel, hf⟩ := h
  obtain ⟨xs, n, _, _, _, hl, hfld⟩ := DataW.trod_struct Tryd.underlying43 hf
  have hc : (Value.agg cs).cells.toList = cs.toList := rfl
  rw [hc] at hfld
  have h0 := hfld 0 _ rfl
  have h1 := hfld 1 _ rfl
  have h2 := hfld 2 _ rfl
  have h3 := hfld 3 _ rfl
  have hl4 : xs.length = 4 := hl
  rw [List.getElem?_eq_getElem (show 0 < xs.length by omega)] at h0
  rw [List.getElem?_eq_getElem (show 1 < xs.length by omega)] at h1
  rw [List.getElem?_eq_getElem (show 2 < xs.length by omega)] at h2
  rw [List.getElem?_eq_getElem (show 3 < xs.length by omega)] at h3
  obtain ⟨a0, e0, _⟩ := DataW.trod_int Tryd.underlying3 h0
  obtain ⟨a2, e2, _⟩ := DataW.trod_int Tryd.underlying3 h2
  obtain ⟨a3, e3, _⟩ := DataW.trod_int Tryd.underlying3 h3
  obtain ⟨ys, m, _, _, _, hy, hel⟩ := DataW.trod_array Tryd.underlying32 h1
  change (cs.toList.drop 0).take (Tryd.prog.cellsOf 3) = _ at e0
  change (cs.toList.drop 13).take (Tryd.prog.cellsOf 3) = _ at e2
  change (cs.toList.drop 14).take (Tryd.prog.cellsOf 3) = _ at e3
  rw [cells1] at e0 e2 e3
  have f0 := take_one e0
  have f2 := take_one e2
  have f3 := take_one e3
  have fa : ∀ i, i < 12 → ∃ a, cs.toList[1 + i]? = some (.int .i64 a) := by
    intro i hi
    have hi2 := hel i hi
    rw [List.getElem?_eq_getElem (by omega)] at hi2
    obtain ⟨a, ea, _⟩ := DataW.trod_int Tryd.underlying3 hi2
    change ((((cs.toList.drop 1).take (Tryd.prog.cellsOf 32)).drop (i * Tryd.prog.cellsOf 3)).take (Tryd.prog.cellsOf 3)) = _ at ea
    rw [cells1, cells12, Nat.mul_one] at ea
    have hf2 := take_one ea
    refine ⟨a, ?_⟩
    rw [List.getElem?_take, if_pos hi, List.getElem?_drop] at hf2
    exact hf2
  have hall : ∀ i, i < cs.toList.length → ∃ a, cs.toList[i]? = some (.int .i64 a) := by
    intro i hi
    rw [Array.length_toList, hsz] at hi
    by_cases g0 : i = 0
    · subst g0; exact ⟨_, f0⟩
    · by_cases g1 : i < 13
      · obtain ⟨a, ha⟩ := fa (i - 1) (by omega)
        rw [show 1 + (i - 1) = i by omega] at ha
        exact ⟨a, ha⟩
      · by_cases g2 : i = 13
        · subst g2; exact ⟨_, f2⟩
        · have g3 : i = 14 := by omega
          subst g3; exact ⟨_, f3⟩
  obtain ⟨rs, hrs⟩ := ints_of_cells cs.toList hall
  have hlr : rs.length = 15 := by
    have := congrArg List.length hrs
    rw [Array.length_toList, hsz, List.length_map] at this
    omega
  obtain ⟨s, ds, p, q, hd, rfl⟩ := root_of_list rs hlr
  refine ⟨s, ds, p, q, hd, ?_⟩
  rw [cellsI, ← hrs]
end Go.Proofs.YtlegmaadcemgnaaDoor

namespace Go.Proofs.YtlegmaadcemgnaaDoor
namespace fnExactTreeRead
open Go.ChangeShapes Go.WideShapes Go.ChangeAt Go.RowKit

set_option linter.unusedVariables false

theorem laidWorld_met (os : Os) (args : Array Value) : laidMetH Tryd.prog Rows.fnExactTreeReadRow.laid ((laidWorld os).forCall (fun _ _ => 0) ⟨#[], args, []⟩).memory :=
  laidMetH_of_parts (laidMet_nil _ _) (by kernel_rfl)
theorem errT_of_laid {W : World} (h : laidMetH Tryd.prog Rows.fnExactTreeReadRow.laid W) : ErrT W := by
  have h' : laidMet Tryd.prog [] W ∧ handlesMet Tryd.prog Rows.fnExactTreeReadRow.laid W := h
  exact errT_of (List.mem_singleton.2 rfl) h'.2

set_option maxRecDepth 100000 in
theorem lifted (os : Os) (started : os.Started) (H : Type) (enc : TypeId × Value → H) :
    ReturnsInHanded {} Tryd.checked os 4 .any (fun w args => (Rows.fnExactTreeReadSpec.pre enc Tryd.prog Tryd.f4 [] false w args ∧ laidMetH Tryd.prog Rows.fnExactTreeReadRow.laid w) ∧ sizedMet enc Tryd.prog Tryd.f4 (OpenSpec.ofChange Rows.fnExactTreeReadSpec) false w args)
      (Rows.fnExactTreeReadSpec.post enc Tryd.prog Tryd.f4 false true false false) := by
  refine returnsInHanded_of_change_and (C := Tryd.checked) (X := fun w _ => laidMetH Tryd.prog Rows.fnExactTreeReadRow.laid w) (fun _ _ _ hh h => h.of_heap hh) own started (by kernel_rfl) Tryd.func4
    (ChangeSpec.witness_at (enc := enc) (C := Tryd.checked) (os := os) (X := fun w _ => laidMetH Tryd.prog Rows.fnExactTreeReadRow.laid w) false (laidWorld os) #[.slice none 0 0, .agg #[.int .i64 0, .int .i64 0, .int .i64 0, .int .i64 0, .int .i64 0, .int .i64 0, .int .i64 0, .int .i64 0, .int .i64 0, .int .i64 0, .int .i64 0, .int .i64 0, .int .i64 0, .int .i64 0, .int .i64 0]] 8 rfl (by kernel_rfl) (by kernel_rfl) (by kernel_rfl) (by kernel_rfl) (by kernel_rfl) (laidWorld_met os _)) ?_
  intro W base args ds gs before hval0 hW hcnd _ hL _
  have hval : ∀ (j : Nat) t v, Tryd.f4.params[j]? = some t → args[j]? = some v → Value.okWide Tryd.prog W .any base t v := hval0
  have hW' := hW
  obtain ⟨p, q, hA0, hV, rfl, hfz, hnd⟩ := hW
  have hA : DataW.TrodAll enc Tryd.prog W 0 (fun _ => true) true Tryd.f4.params.toList args.toList ds p := hA0
  rw [Tryd.params4] at hA hval
  obtain ⟨v0, vs0, d0, ds0, p0, q0, hargs, rfl, rfl, h0, r0⟩ := trodAll_cons hA
  obtain ⟨v1, vs1, d1, ds1, p1, q1, hargs1, rfl, rfl, h1, r1⟩ := trodAll_cons r0
  obtain ⟨rfl, rfl, rfl⟩ := trodAll_nil r1
  obtain rfl : args = #[v0, v1] := by cases args; simp_all
  obtain ⟨rfl, rfl⟩ := trodVars_none hV
  obtain ⟨a0, len0, cap0, rfl⟩ := okWide_slice Tryd.underlying22 (hval 0 22 v0 rfl rfl)
  have k0 := h0
  have lt0 : ∀ x ∈ p0, x.block < W.heap.size := by obtain ⟨m, hm⟩ := k0; exact DataW.trod_lt m _ _ _ hm
  obtain ⟨z0, w0⟩ : ∃ zs, IsRow .u8 W a0 len0 cap0 zs := by
    obtain ⟨fuel, hf⟩ := h0
    rcases open_ints Tryd.underlying22 Tryd.underlying5 (by kernel_rfl) hf with ⟨hcs, _⟩ | ⟨x, l, c, zs, hcs, _, hl, hm, hz, _, hcell, hwz⟩
    · simp [Value.cells] at hcs
      obtain ⟨rfl, rfl, rfl⟩ := hcs
      exact ⟨[], .inl ⟨rfl, rfl, rfl, rfl⟩⟩
    · simp [Value.cells] at hcs
      obtain ⟨rfl, rfl, rfl⟩ := hcs
      exact ⟨zs, .inr ⟨_, rfl, hl, hm, by simpa using hz, hcell, hwz⟩⟩
  have k1 := h1
  have lt1 : ∀ x ∈ p1, x.block < W.heap.size := by obtain ⟨m, hm⟩ := k1; exact DataW.trod_lt m _ _ _ hm
  obtain ⟨rs1, rd1, rp1, rq1, w1, rfl⟩ := open_root (hval 1 43 v1 rfl rfl) h1
  clear hA0 hval0
  refine (lawTrr _ _ _ _ _ _ _ (Rd.of_row w0).1 (bytes_bd (Rd.of_row w0).2.2) w1 (errT_of_laid hL)).mono fun e W' ⟨he, bel⟩ => ?_
  subst he
  exact ⟨_, rfl, _, _, _, [], _, [], hW', trodAll_mk1 (shut_bool Tryd.underlying4 _), (trodAll_cons_mk (Below.trod laidOut (by kernel_rfl) (of_decide_eq_true (by kernel_rfl)) k0 bel lt0) (trodAll_cons_mk (Below.trod laidOut (by kernel_rfl) (of_decide_eq_true (by kernel_rfl)) k1 bel lt1) trodAll_mk0)), rfl, bel.frame _, fun h => by cases h⟩

theorem said : Rows.FnExactTreeReadSaid :=
  OpenClaim.holds_of_wide 4 Tryd.f4 rfl rfl rfl rfl rfl rfl rfl ⟨rfl, rfl, rfl, rfl, rfl⟩ rfl rfl rfl rfl rfl (by kernel_rfl) Tryd.func4 (by kernel_rfl)
    (of_decide_eq_true (by kernel_rfl)) (by unfold Func.isWrapper; first | (rw [if_pos (by decide +kernel)]; kernel_rfl) | (rw [if_neg (by decide +kernel)]; exact ⟨rfl, rfl⟩))
    (fun os started H enc _ => lifted os started H enc)

theorem plain (f : FuncId) (fn : Func) (hf : Tryd.pinned.checked.prog.funcNamed "loop.example/s02533/laws.FnExactTreeRead" = some f) (hfn : Tryd.pinned.checked.prog.funcs[f]? = some fn) :
    true = Tryd.pinned.checked.prog.looks [] ∧ ∀ (j : Nat) t, fn.params[j]? = some t → Tryd.pinned.checked.prog.wantsStandIn t = false := by
  obtain rfl : f = 4 := Option.some.inj ((show Tryd.prog.funcNamed "loop.example/s02533/laws.FnExactTreeRead" = some 4 by kernel_rfl).symm.trans hf) |>.symm
  obtain rfl : fn = Tryd.f4 := (Option.some.inj (Tryd.func4.symm.trans hfn)).symm
  refine ⟨by kernel_rfl, fun j t ht => ?_⟩
  rw [Tryd.params4] at ht
  have hm : t = 22 ∨ t = 43 := by have h := Array.mem_of_getElem? ht; simp at h; first | exact h | (rcases h with h | h | h <;> simp [h]) | (rcases h with h | h | h | h <;> simp [h])
  rcases hm with rfl | rfl
  · exact (show Tryd.prog.wantsStandIn 22 = false by kernel_rfl)
  · exact (show Tryd.prog.wantsStandIn 43 = false by kernel_rfl)
end fnExactTreeRead

/-- The card. -/
theorem treeRead_card : Rows.FnExactTreeReadCardSaid :=
  Claim7.holds_tied_plain_at .later [] _ _ _ _ fnExactTreeRead.said (fun _ h => by cases h) (by kernel_rfl) (fun _ h => by cases h) fnExactTreeRead_row_tie rfl ⟨rfl, rfl⟩ (by kernel_rfl) rfl fnExactTreeRead.plain (by kernel_rfl)
#print axioms treeRead_card
end Go.Proofs.YtlegmaadcemgnaaDoor
