/- The library's sorting of entries by their names, laid at this program (the layings as the library's own tool prints them), and what it leaves. -/
import Derived.Shelf.SlSortCmp.WholeK
import Derived.Shelf.Small.Strs
import Derived.Sort.OwnSorted
import Derived.Test.YtcciaojdceejcaaDoorListN
namespace Go.Proofs.YtcciaojdceejcaaDoor
set_option linter.unusedVariables false
set_option linter.unusedSimpArgs false
open Go.Shelf
def sortD_ren : Go.Shelf.Ren := ⟨fun | 6 => 65 | 15 => 85 | 14 => 84 | 28 => 103 | 29 => 104 | 20 => 95 | 21 => 96 | 22 => 97 | 23 => 98 | 24 => 99 | 25 => 100 | 26 => 101 | 27 => 102 | 46 => 106 | 47 => 107 | 48 => 108 | 49 => 109 | 50 => 110 | 57 => 111 | n => n, fun | 22 => 29 | 24 => 34 | 25 => 109 | 3 => 3 | 39 => 62 | 0 => 0 | 53 => 116 | 55 => 59 | 4 => 4 | 46 => 159 | 45 => 158 | 50 => 65 | 5 => 5 | 9 => 9 | 66 => 166 | 70 => 170 | 76 => 172 | 77 => 173 | n => n, fun | n => n⟩
theorem sortD : Go.Proofs.SlLaysF0.n6 Tryd.prog sortD_ren := {
  mixed := by kernel_rfl
  f6 := ⟨Tryd.f65.name, by decide, Tryd.func65.trans (congrArg some (by kernel_rfl))⟩
  f14 := ⟨Tryd.f84.name, by decide, Tryd.func84.trans (congrArg some (by kernel_rfl))⟩
  f15 := Tryd.func85.trans (congrArg some (by kernel_rfl))
  f20 := ⟨Tryd.f95.name, by decide, Tryd.func95.trans (congrArg some (by kernel_rfl))⟩
  f21 := ⟨Tryd.f96.name, by decide, Tryd.func96.trans (congrArg some (by kernel_rfl))⟩
  f22 := ⟨Tryd.f97.name, by decide, Tryd.func97.trans (congrArg some (by kernel_rfl))⟩
  f23 := ⟨Tryd.f98.name, by decide, Tryd.func98.trans (congrArg some (by kernel_rfl))⟩
  f24 := ⟨Tryd.f99.name, by decide, Tryd.func99.trans (congrArg some (by kernel_rfl))⟩
  f25 := ⟨Tryd.f100.name, by decide, Tryd.func100.trans (congrArg some (by kernel_rfl))⟩
  f26 := ⟨Tryd.f101.name, by decide, Tryd.func101.trans (congrArg some (by kernel_rfl))⟩
  f27 := ⟨Tryd.f102.name, by decide, Tryd.func102.trans (congrArg some (by kernel_rfl))⟩
  f28 := Tryd.func103.trans (congrArg some (by kernel_rfl))
  f29 := Tryd.func104.trans (congrArg some (by kernel_rfl))
  f46 := ⟨Tryd.f106.name, by decide, Tryd.func106.trans (congrArg some (by kernel_rfl))⟩
  f47 := Tryd.func107.trans (congrArg some (by kernel_rfl))
  f48 := Tryd.func108.trans (congrArg some (by kernel_rfl))
  f49 := ⟨Tryd.f109.name, by decide, Tryd.func109.trans (congrArg some (by kernel_rfl))⟩
  f50 := ⟨Tryd.f110.name, by decide, Tryd.func110.trans (congrArg some (by kernel_rfl))⟩
  f57 := ⟨Tryd.f111.name, by decide, Tryd.func111.trans (congrArg some (by kernel_rfl))⟩
  t0 := Tryd.underlying0
  a0 := Tryd.isAgg0
  z0 := Tryd.sizeOf0
  v0 := Tryd.zeroValue0
  t3 := Tryd.underlying3
  a3 := Tryd.isAgg3
  z3 := Tryd.sizeOf3
  v3 := Tryd.zeroValue3
  t4 := Tryd.underlying4
  a4 := Tryd.isAgg4
  z4 := Tryd.sizeOf4
  v4 := Tryd.zeroValue4
  t5 := Tryd.underlying5
  a5 := Tryd.isAgg5
  z5 := Tryd.sizeOf5
  v5 := Tryd.zeroValue5
  t9 := Tryd.underlying9
  a9 := Tryd.isAgg9
  z9 := Tryd.sizeOf9
  v9 := Tryd.zeroValue9
  t22 := Tryd.underlying29
  a22 := Tryd.isAgg29
  z22 := Tryd.sizeOf29
  v22 := Tryd.zeroValue29
  t25 := Tryd.underlying109
  a25 := Tryd.isAgg109
  z25 := Tryd.sizeOf109
  v25 := Tryd.zeroValue109
  t39 := Tryd.underlying62
  a39 := Tryd.isAgg62
  z39 := Tryd.sizeOf62
  v39 := Tryd.zeroValue62
  t45 := Tryd.underlying158
  a45 := Tryd.isAgg158
  z45 := Tryd.sizeOf158
  v45 := Tryd.zeroValue158
  t46 := Tryd.underlying159
  a46 := Tryd.isAgg159
  z46 := Tryd.sizeOf159
  v46 := Tryd.zeroValue159
  t50 := Tryd.underlying65
  a50 := Tryd.isAgg65
  z50 := Tryd.sizeOf65
  v50 := Tryd.zeroValue65
  t53 := Tryd.underlying116
  a53 := Tryd.isAgg116
  z53 := Tryd.sizeOf116
  v53 := Tryd.zeroValue116
  t55 := Tryd.underlying59
  a55 := Tryd.isAgg59
  z55 := Tryd.sizeOf59
  v55 := Tryd.zeroValue59
  t66 := Tryd.underlying166
  a66 := Tryd.isAgg166
  z66 := Tryd.sizeOf166
  v66 := Tryd.zeroValue166
  t70 := Tryd.underlying170
  a70 := Tryd.isAgg170
  z70 := Tryd.sizeOf170
  v70 := Tryd.zeroValue170
  t76 := Tryd.underlying172
  a76 := Tryd.isAgg172
  z76 := Tryd.sizeOf172
  v76 := Tryd.zeroValue172
  t77 := Tryd.underlying173
  a77 := Tryd.isAgg173
  z77 := Tryd.sizeOf173
  v77 := Tryd.zeroValue173 }
def cmpS_ren : Go.Shelf.Ren := ⟨fun | 106 => 67 | 213 => 86 | 265 => 105 | n => n, fun | 9 => 9 | 3 => 3 | n => n, fun | n => n⟩
theorem cmpS : Go.Proofs.Lays.n106 Tryd.prog cmpS_ren := {
  mixed := by kernel_rfl
  f106 := Tryd.func67.trans (congrArg some (by kernel_rfl))
  f213 := Tryd.func86.trans (congrArg some (by kernel_rfl))
  f265 := Tryd.func105.trans (congrArg some (by kernel_rfl))
  t3 := Tryd.underlying3
  a3 := Tryd.isAgg3
  z3 := Tryd.sizeOf3
  v3 := Tryd.zeroValue3
  t9 := Tryd.underlying9
  a9 := Tryd.isAgg9
  z9 := Tryd.sizeOf9
  v9 := Tryd.zeroValue9 }
open Go.RowKit Go.Lib Go.Sort

/-- An entry's cells. -/
def encE (x : EI) : List Value := [.string x.1, .int .i64 x.2.1, .int .i64 x.2.2]
theorem flat_ents (M : List EI) : flatK encE 3 M.toArray = (entsI M).toArray := by
  apply Array.ext
  · rw [size_flatK]
    simp [entsI_len]
  · intro t h1 h2
    have ht : t < M.length * 3 := by rw [size_flatK] at h1; simpa using h1
    have g := get_flatK encE 3 M.toArray t (by simpa using ht)
    rw [getElem!_pos (flatK encE 3 M.toArray) t h1] at g
    rw [g]
    have hk : t / 3 < M.length := by omega
    have h3 : M[t / 3]? = some M[t / 3] := List.getElem?_eq_getElem hk
    have e1 : M.toArray[t / 3]! = M[t / 3] := by
      rw [getElem!_pos M.toArray (t / 3) (by simpa using hk)]
      simp
    rw [e1]
    have h4 : (entC M[t / 3].1 M[t / 3].2.1 M[t / 3].2.2).toList[t % 3]? = some ((encE M[t / 3])[t % 3]!) := by
      have h5 : t % 3 = 0 ∨ t % 3 = 1 ∨ t % 3 = 2 := by omega
      rcases h5 with h5 | h5 | h5 <;> rw [h5] <;> rfl
    have h6 := entsI_at h3 (t % 3) _ h4
    rw [show t / 3 * 3 + t % 3 = t by omega] at h6
    simp only [List.getElem_toArray]
    exact ((List.getElem?_eq_some_iff.1 h6).2).symm
theorem heap_sortedV {w : World} {g n : Nat} {os : Array Obj} {cur : Array Value} {e : TypeId} {fr : Nat × Nat} (d : Array Value) (hb : w.heap[g]? = some (.cells cur e fr)) :
    (grow (putRow id (Sort.ahead w n) g 0 d) os).heap[g]? = some (.cells (putCells id 0 d cur) e fr) := by
  have hg : g < w.heap.size := (Array.getElem?_eq_some_iff.1 hb).1
  rw [heap_grow_old _ _ (by simpa using hg)]
  simp [putRow, mapBlock, Sort.ahead, Array.getElem?_modify, hb, onCells]
theorem grownBy_sortedV {w : World} {g n : Nat} {os : Array Obj} (d : Array Value) : w.grownBy (grow (putRow id (Sort.ahead w n) g 0 d) os) (some g) := by
  refine ⟨rfl, rfl, rfl, by simp, fun k hk hne => ?_⟩
  rw [heap_grow_old _ _ (by simpa using hk)]
  have : g ≠ k := fun e => hne (by rw [e])
  simp [putRow, mapBlock, Sort.ahead, Array.getElem?_modify, this]
theorem take_putCellsV (cur : Array Value) (ts : List Value) (h : ts.length ≤ cur.size) : (putCells id 0 ts.toArray cur).toList.take ts.length = ts := by
  apply List.ext_getElem?
  intro j
  by_cases hj : j < ts.length
  · rw [List.getElem?_take_of_lt hj, Array.getElem?_toList]
    simp [putCells, hj, show j < cur.size by omega]
  · rw [List.getElem?_take_eq_none (by omega), List.getElem?_eq_none (by omega)]
theorem lt_names (x y : EI) : ltOf (fun x y : EI => Lib.compareBytes x.1.data.toList y.1.data.toList) x y = Op.bytesLess x.1.data.toList y.1.data.toList := by
  unfold ltOf
  exact cmp_less _ _
theorem swoNames : SWO (ltOf fun x y : EI => Lib.compareBytes x.1.data.toList y.1.data.toList) where
  irrefl x := by rw [lt_names]; exact less_irrefl _
  trans x y z h1 h2 := by rw [lt_names] at *; exact less_trans h1 h2
  ntrans x y z h1 h2 := by
    rw [lt_names] at *
    cases h3 : Op.bytesLess x.1.data.toList z.1.data.toList with
    | false => rfl
    | true =>
      cases h4 : Op.bytesLess y.1.data.toList x.1.data.toList with
      | true => have := less_trans h4 h3; rw [h2] at this; cases this
      | false => rw [less_total h1 h4, h2] at h3; cases h3
set_option maxHeartbeats 1000000 in
/-- What the sort asks of two entries: their names, in whatever world. -/
theorem cmpClo (x y : EI) (W : World) : Calls Tryd.prog 66 #[.agg #[.string x.1, .int .i64 x.2.1, .int .i64 x.2.2], .agg #[.string y.1, .int .i64 y.2.1, .int .i64 y.2.2]] W fun e w' => e = .returned (.int .i64 (Lib.compareBytes x.1.data.toList y.1.data.toList)) ∧ ∃ q os', w' = grow (W.drewN q) os' := by
  have hcon := fun W' => Any.strings_Compare cmpS x.1 y.1 W'
  change ∀ W', Calls Tryd.prog 67 _ _ _ at hcon
  generalize Lib.compareBytes x.1.data.toList y.1.data.toList = r at hcon ⊢
  go_enter Tryd.func66, Tryd.ntmps66
  go_wp2_with (go_at_call 67; refine (hcon _).mono ?_; rintro e w' ⟨rfl, rfl⟩)
  go_ret
  exact ⟨rfl, 0, _, by rw [alloc_eq_grow, alloc_eq_grow, grow_grow]; rfl⟩
theorem cmpLaysE (blk off size : Nat) (w : World) : CmpLays Tryd.prog 66 #[] encE 3 (fun x y => Lib.compareBytes x.1.data.toList y.1.data.toList) blk off size w :=
  fun _ _ _ _ x y => cmpClo x y _
/-- A list of entries that the call owns, sorted. -/
theorem sortE_any (base g cap : Nat) (L : List EI) (w : World) (h : w.ownsRow base 34 3 (.slice (some ⟨g, 0, none⟩) L.length cap) L.length (entsI L)) (hL : L.length ≤ 8192) :
    Calls Tryd.prog 65 #[.slice (some ⟨g, 0, none⟩) L.length cap, .func (.func 66) #[] #[]] w fun e w' =>
      e = .returned (.tuple #[]) ∧ ∃ M : List EI, M.Perm L ∧ (M.Pairwise fun a b => Op.bytesLess b.1.data.toList a.1.data.toList = false) ∧ w'.ownsRow base 34 3 (.slice (some ⟨g, 0, none⟩) L.length cap) L.length (entsI M) ∧ w.grownBy w' (some g) := by
  rcases h.2 with ⟨hnil, _⟩ | ⟨g', cap', cur, hv, hbase, hb, h1, h2, h3, h4⟩
  · cases hnil
  injection hv with e1 e2 e3
  injection e1 with e1
  injection e1 with e1
  subst e1
  subst e3
  have hH : HoldsK encE 3 w g 0 L.toArray := by
    unfold HoldsK
    rw [flat_ents]
    intro j hj
    have hj' : j < (entsI L).length := by simpa using hj
    have hl := entsI_len L
    refine ⟨?_, by simp [World.frozen?, hb]⟩
    have h5 : (cur.toList.take (L.length * 3))[j]? = (entsI L)[j]? := by rw [h4]
    rw [List.getElem?_take_of_lt (by omega)] at h5
    simp only [World.cell?, hb, Nat.zero_add]
    simp only [Option.isSome_none, Bool.false_eq_true, if_false]
    rw [← Array.getElem?_toList, h5]
    simp [hj']
  have hgl : g < w.heap.size := (Array.getElem?_eq_some_iff.1 hb).1
  have eg : ∀ args w, (callFunc 66 args).run Tryd.prog w = .ok (.enter 66 args) w := enters_of Tryd.func66 (by kernel_rfl) rfl
  have hcon := AnyQ.slices_SortFunc sortD 3 Tryd.isAgg34 Tryd.sizeOf34 encE (fun _ => rfl) (fun x v hv => by simp [encE] at hv; rcases hv with rfl | rfl | rfl <;> rfl) (fun x y => Lib.compareBytes x.1.data.toList y.1.data.toList) swoNames 66 #[] g 0 cap L.toArray w eg (cmpLaysE g 0 _ w) hH hgl (by simp; omega)
  change Calls Tryd.prog 65 _ _ _ at hcon
  rw [List.size_toArray] at hcon
  refine hcon.mono ?_
  rintro e w' ⟨rfl, d', n, os, hp, hs, rfl⟩
  obtain ⟨hps, _, hpp⟩ := hp
  have hM : d' = d'.toList.toArray := by simp
  have hlen : d'.toList.length = L.length := by simpa using hps
  refine ⟨rfl, d'.toList, ?_, ?_, ?_, ?_⟩
  · have e1 : d'.extract 0 L.length = d' := by
      rw [show L.length = d'.size by simpa using hps.symm]
      simp
    have e2 : L.toArray.extract 0 L.length = L.toArray := by simp
    rw [e1, e2] at hpp
    simpa using hpp
  · rw [List.pairwise_iff_getElem]
    intro i j hi hj hij
    have h5 := hs i j (Nat.zero_le _) hij (by omega)
    rw [lt_names] at h5
    rw [getElem!_pos d' i (by simpa using hi), getElem!_pos d' j (by simpa using hj)] at h5
    simpa using h5
  · refine ⟨by rw [entsI_len, hlen], .inr ⟨g, cap, putCells id 0 (entsI d'.toList).toArray cur, rfl, hbase, ?_, h1, h2, by simp [putCells, h3], ?_⟩⟩
    · unfold sortWorldK putRowK
      rw [hM, flat_ents]
      exact heap_sortedV _ hb
    · rw [show L.length * 3 = (entsI d'.toList).length by rw [entsI_len, hlen]]
      exact take_putCellsV cur _ (by rw [entsI_len, hlen, h3]; omega)
  · unfold sortWorldK putRowK
    exact grownBy_sortedV _
end Go.Proofs.YtcciaojdceejcaaDoor
