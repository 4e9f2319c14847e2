/- The library's sorting of entries by their names, laid at this program (the layings as the library's own tool prints them), and what it leaves. -/
import Derived.Shelf.SlSortCmp.WholeK
import Derived.Shelf.Small.Strs
import Derived.Sort.OwnSorted
import Derived.Test.YtplieplmhdfndaaGreatDoorZg42
namespace Go.Proofs.YtplieplmhdfndaaGreatDoor
set_option linter.unusedVariables false
set_option linter.unusedSimpArgs false
open Go.Shelf
def sortD_ren : Go.Shelf.Ren := ⟨fun | 6 => 108 | 15 => 151 | 14 => 150 | 28 => 187 | 29 => 188 | 20 => 179 | 21 => 180 | 22 => 181 | 23 => 182 | 24 => 183 | 25 => 184 | 26 => 185 | 27 => 186 | 46 => 201 | 47 => 202 | 48 => 203 | 49 => 204 | 50 => 205 | 57 => 212 | n => n, fun | 22 => 98 | 24 => 61 | 25 => 200 | 3 => 3 | 39 => 108 | 0 => 0 | 53 => 213 | 55 => 93 | 4 => 4 | 46 => 262 | 45 => 261 | 50 => 113 | 5 => 5 | 9 => 9 | 66 => 277 | 70 => 281 | 76 => 286 | 77 => 39 | n => n, fun | n => n⟩
theorem sortD : Go.Proofs.SlLaysF0.n6 Tryz.prog sortD_ren := {
  mixed := by kernel_rfl
  f6 := ⟨Tryz.f108.name, by decide, Tryz.func108.trans (congrArg some (by kernel_rfl))⟩
  f14 := ⟨Tryz.f150.name, by decide, Tryz.func150.trans (congrArg some (by kernel_rfl))⟩
  f15 := Tryz.func151.trans (congrArg some (by kernel_rfl))
  f20 := ⟨Tryz.f179.name, by decide, Tryz.func179.trans (congrArg some (by kernel_rfl))⟩
  f21 := ⟨Tryz.f180.name, by decide, Tryz.func180.trans (congrArg some (by kernel_rfl))⟩
  f22 := ⟨Tryz.f181.name, by decide, Tryz.func181.trans (congrArg some (by kernel_rfl))⟩
  f23 := ⟨Tryz.f182.name, by decide, Tryz.func182.trans (congrArg some (by kernel_rfl))⟩
  f24 := ⟨Tryz.f183.name, by decide, Tryz.func183.trans (congrArg some (by kernel_rfl))⟩
  f25 := ⟨Tryz.f184.name, by decide, Tryz.func184.trans (congrArg some (by kernel_rfl))⟩
  f26 := ⟨Tryz.f185.name, by decide, Tryz.func185.trans (congrArg some (by kernel_rfl))⟩
  f27 := ⟨Tryz.f186.name, by decide, Tryz.func186.trans (congrArg some (by kernel_rfl))⟩
  f28 := Tryz.func187.trans (congrArg some (by kernel_rfl))
  f29 := Tryz.func188.trans (congrArg some (by kernel_rfl))
  f46 := ⟨Tryz.f201.name, by decide, Tryz.func201.trans (congrArg some (by kernel_rfl))⟩
  f47 := Tryz.func202.trans (congrArg some (by kernel_rfl))
  f48 := Tryz.func203.trans (congrArg some (by kernel_rfl))
  f49 := ⟨Tryz.f204.name, by decide, Tryz.func204.trans (congrArg some (by kernel_rfl))⟩
  f50 := ⟨Tryz.f205.name, by decide, Tryz.func205.trans (congrArg some (by kernel_rfl))⟩
  f57 := ⟨Tryz.f212.name, by decide, Tryz.func212.trans (congrArg some (by kernel_rfl))⟩
  t0 := Tryz.underlying0
  a0 := Tryz.isAgg0
  z0 := Tryz.sizeOf0
  v0 := Tryz.zeroValue0
  t3 := Tryz.underlying3
  a3 := Tryz.isAgg3
  z3 := Tryz.sizeOf3
  v3 := Tryz.zeroValue3
  t4 := Tryz.underlying4
  a4 := Tryz.isAgg4
  z4 := Tryz.sizeOf4
  v4 := Tryz.zeroValue4
  t5 := Tryz.underlying5
  a5 := Tryz.isAgg5
  z5 := Tryz.sizeOf5
  v5 := Tryz.zeroValue5
  t9 := Tryz.underlying9
  a9 := Tryz.isAgg9
  z9 := Tryz.sizeOf9
  v9 := Tryz.zeroValue9
  t22 := Tryz.underlying98
  a22 := Tryz.isAgg98
  z22 := Tryz.sizeOf98
  v22 := Tryz.zeroValue98
  t25 := Tryz.underlying200
  a25 := Tryz.isAgg200
  z25 := Tryz.sizeOf200
  v25 := Tryz.zeroValue200
  t39 := Tryz.underlying108
  a39 := Tryz.isAgg108
  z39 := Tryz.sizeOf108
  v39 := Tryz.zeroValue108
  t45 := Tryz.underlying261
  a45 := Tryz.isAgg261
  z45 := Tryz.sizeOf261
  v45 := Tryz.zeroValue261
  t46 := Tryz.underlying262
  a46 := Tryz.isAgg262
  z46 := Tryz.sizeOf262
  v46 := Tryz.zeroValue262
  t50 := Tryz.underlying113
  a50 := Tryz.isAgg113
  z50 := Tryz.sizeOf113
  v50 := Tryz.zeroValue113
  t53 := Tryz.underlying213
  a53 := Tryz.isAgg213
  z53 := Tryz.sizeOf213
  v53 := Tryz.zeroValue213
  t55 := Tryz.underlying93
  a55 := Tryz.isAgg93
  z55 := Tryz.sizeOf93
  v55 := Tryz.zeroValue93
  t66 := Tryz.underlying277
  a66 := Tryz.isAgg277
  z66 := Tryz.sizeOf277
  v66 := Tryz.zeroValue277
  t70 := Tryz.underlying281
  a70 := Tryz.isAgg281
  z70 := Tryz.sizeOf281
  v70 := Tryz.zeroValue281
  t76 := Tryz.underlying286
  a76 := Tryz.isAgg286
  z76 := Tryz.sizeOf286
  v76 := Tryz.zeroValue286
  t77 := Tryz.underlying39
  a77 := Tryz.isAgg39
  z77 := Tryz.sizeOf39
  v77 := Tryz.zeroValue39 }
def cmpS_ren : Go.Shelf.Ren := ⟨fun | 106 => 110 | 213 => 152 | 265 => 189 | n => n, fun | 9 => 9 | 3 => 3 | n => n, fun | n => n⟩
theorem cmpS : Go.Proofs.Lays.n106 Tryz.prog cmpS_ren := {
  mixed := by kernel_rfl
  f106 := Tryz.func110.trans (congrArg some (by kernel_rfl))
  f213 := Tryz.func152.trans (congrArg some (by kernel_rfl))
  f265 := Tryz.func189.trans (congrArg some (by kernel_rfl))
  t3 := Tryz.underlying3
  a3 := Tryz.isAgg3
  z3 := Tryz.sizeOf3
  v3 := Tryz.zeroValue3
  t9 := Tryz.underlying9
  a9 := Tryz.isAgg9
  z9 := Tryz.sizeOf9
  v9 := Tryz.zeroValue9 }
open Go.RowKit Go.Lib Go.Sort

/-- An entry's cells. -/
def encE (x : EI) : List Value := [.string x.1, .int .i64 x.2.1, .int .i64 x.2.2]
theorem flat_ents (M : List EI) : flatK encE 3 M.toArray = (entsI M).toArray := by
  apply Array.ext
  · rw [size_flatK]
    simp [entsI_len]
  · intro t h1 h2
    have ht : t < M.length * 3 := by rw [size_flatK] at h1; simpa using h1
    have g := get_flatK encE 3 M.toArray t (by simpa using ht)
    rw [getElem!_pos (flatK encE 3 M.toArray) t h1] at g
    rw [g]
    have hk : t / 3 < M.length := by omega
    have h3 : M[t / 3]? = some M[t / 3] := List.getElem?_eq_getElem hk
    have e1 : M.toArray[t / 3]! = M[t / 3] := by
      rw [getElem!_pos M.toArray (t / 3) (by simpa using hk)]
      simp
    rw [e1]
    have h4 : (entC M[t / 3].1 M[t / 3].2.1 M[t / 3].2.2).toList[t % 3]? = some ((encE M[t / 3])[t % 3]!) := by
      have h5 : t % 3 = 0 ∨ t % 3 = 1 ∨ t % 3 = 2 := by omega
      rcases h5 with h5 | h5 | h5 <;> rw [h5] <;> rfl
    have h6 := entsI_at h3 (t % 3) _ h4
    rw [show t / 3 * 3 + t % 3 = t by omega] at h6
    simp only [List.getElem_toArray]
    exact ((List.getElem?_eq_some_iff.1 h6).2).symm
theorem heap_sortedV {w : World} {g n : Nat} {os : Array Obj} {cur : Array Value} {e : TypeId} {fr : Nat × Nat} (d : Array Value) (hb : w.heap[g]? = some (.cells cur e fr)) :
    (grow (putRow id (Sort.ahead w n) g 0 d) os).heap[g]? = some (.cells (putCells id 0 d cur) e fr) := by
  have hg : g < w.heap.size := (Array.getElem?_eq_some_iff.1 hb).1
  rw [heap_grow_old _ _ (by simpa using hg)]
  simp [putRow, mapBlock, Sort.ahead, Array.getElem?_modify, hb, onCells]
theorem grownBy_sortedV {w : World} {g n : Nat} {os : Array Obj} (d : Array Value) : w.grownBy (grow (putRow id (Sort.ahead w n) g 0 d) os) (some g) := by
  refine ⟨rfl, rfl, rfl, by simp, fun k hk hne => ?_⟩
  rw [heap_grow_old _ _ (by simpa using hk)]
  have : g ≠ k := fun e => hne (by rw [e])
  simp [putRow, mapBlock, Sort.ahead, Array.getElem?_modify, this]
theorem take_putCellsV (cur : Array Value) (ts : List Value) (h : ts.length ≤ cur.size) : (putCells id 0 ts.toArray cur).toList.take ts.length = ts := by
  apply List.ext_getElem?
  intro j
  by_cases hj : j < ts.length
  · rw [List.getElem?_take_of_lt hj, Array.getElem?_toList]
    simp [putCells, hj, show j < cur.size by omega]
  · rw [List.getElem?_take_eq_none (by omega), List.getElem?_eq_none (by omega)]
theorem lt_names (x y : EI) : ltOf (fun x y : EI => Lib.compareBytes x.1.data.toList y.1.data.toList) x y = Op.bytesLess x.1.data.toList y.1.data.toList := by
  unfold ltOf
  exact cmp_less _ _
theorem swoNames : SWO (ltOf fun x y : EI => Lib.compareBytes x.1.data.toList y.1.data.toList) where
  irrefl x := by rw [lt_names]; exact less_irrefl _
  trans x y z h1 h2 := by rw [lt_names] at *; exact less_trans h1 h2
  ntrans x y z h1 h2 := by
    rw [lt_names] at *
    cases h3 : Op.bytesLess x.1.data.toList z.1.data.toList with
    | false => rfl
    | true =>
      cases h4 : Op.bytesLess y.1.data.toList x.1.data.toList with
      | true => have := less_trans h4 h3; rw [h2] at this; cases this
      | false => rw [less_total h1 h4, h2] at h3; cases h3
set_option maxHeartbeats 1000000 in
/-- What the sort asks of two entries: their names, in whatever world. -/
theorem cmpClo (x y : EI) (W : World) : Calls Tryz.prog 109 #[.agg #[.string x.1, .int .i64 x.2.1, .int .i64 x.2.2], .agg #[.string y.1, .int .i64 y.2.1, .int .i64 y.2.2]] W fun e w' => e = .returned (.int .i64 (Lib.compareBytes x.1.data.toList y.1.data.toList)) ∧ ∃ q os', w' = grow (W.drewN q) os' := by
  have hcon := fun W' => Any.strings_Compare cmpS x.1 y.1 W'
  change ∀ W', Calls Tryz.prog 110 _ _ _ at hcon
  generalize Lib.compareBytes x.1.data.toList y.1.data.toList = r at hcon ⊢
  go_enter Tryz.func109, Tryz.ntmps109
  go_wp2_with (go_at_call 110; refine (hcon _).mono ?_; rintro e w' ⟨rfl, rfl⟩)
  go_ret
  exact ⟨rfl, 0, _, by rw [alloc_eq_grow, alloc_eq_grow, grow_grow]; rfl⟩
theorem cmpLaysE (blk off size : Nat) (w : World) : CmpLays Tryz.prog 109 #[] encE 3 (fun x y => Lib.compareBytes x.1.data.toList y.1.data.toList) blk off size w :=
  fun _ _ _ _ x y => cmpClo x y _
/-- A list of entries that the call owns, sorted. -/
theorem sortE_any (base g cap : Nat) (L : List EI) (w : World) (h : w.ownsRow base 61 3 (.slice (some ⟨g, 0, none⟩) L.length cap) L.length (entsI L)) (hL : L.length ≤ 8192) :
    Calls Tryz.prog 108 #[.slice (some ⟨g, 0, none⟩) L.length cap, .func (.func 109) #[] #[]] w fun e w' =>
      e = .returned (.tuple #[]) ∧ ∃ M : List EI, M.Perm L ∧ (M.Pairwise fun a b => Op.bytesLess b.1.data.toList a.1.data.toList = false) ∧ w'.ownsRow base 61 3 (.slice (some ⟨g, 0, none⟩) L.length cap) L.length (entsI M) ∧ w.grownBy w' (some g) := by
  rcases h.2 with ⟨hnil, _⟩ | ⟨g', cap', cur, hv, hbase, hb, h1, h2, h3, h4⟩
  · cases hnil
  injection hv with e1 e2 e3
  injection e1 with e1
  injection e1 with e1
  subst e1
  subst e3
  have hH : HoldsK encE 3 w g 0 L.toArray := by
    unfold HoldsK
    rw [flat_ents]
    intro j hj
    have hj' : j < (entsI L).length := by simpa using hj
    have hl := entsI_len L
    refine ⟨?_, by simp [World.frozen?, hb]⟩
    have h5 : (cur.toList.take (L.length * 3))[j]? = (entsI L)[j]? := by rw [h4]
    rw [List.getElem?_take_of_lt (by omega)] at h5
    simp only [World.cell?, hb, Nat.zero_add]
    simp only [Option.isSome_none, Bool.false_eq_true, if_false]
    rw [← Array.getElem?_toList, h5]
    simp [hj']
  have hgl : g < w.heap.size := (Array.getElem?_eq_some_iff.1 hb).1
  have eg : ∀ args w, (callFunc 109 args).run Tryz.prog w = .ok (.enter 109 args) w := enters_of Tryz.func109 (by kernel_rfl) rfl
  have hcon := AnyQ.slices_SortFunc sortD 3 Tryz.isAgg61 Tryz.sizeOf61 encE (fun _ => rfl) (fun x v hv => by simp [encE] at hv; rcases hv with rfl | rfl | rfl <;> rfl) (fun x y => Lib.compareBytes x.1.data.toList y.1.data.toList) swoNames 109 #[] g 0 cap L.toArray w eg (cmpLaysE g 0 _ w) hH hgl (by simp; omega)
  change Calls Tryz.prog 108 _ _ _ at hcon
  rw [List.size_toArray] at hcon
  refine hcon.mono ?_
  rintro e w' ⟨rfl, d', n, os, hp, hs, rfl⟩
  obtain ⟨hps, _, hpp⟩ := hp
  have hM : d' = d'.toList.toArray := by simp
  have hlen : d'.toList.length = L.length := by simpa using hps
  refine ⟨rfl, d'.toList, ?_, ?_, ?_, ?_⟩
  · have e1 : d'.extract 0 L.length = d' := by
      rw [show L.length = d'.size by simpa using hps.symm]
      simp
    have e2 : L.toArray.extract 0 L.length = L.toArray := by simp
    rw [e1, e2] at hpp
    simpa using hpp
  · rw [List.pairwise_iff_getElem]
    intro i j hi hj hij
    have h5 := hs i j (Nat.zero_le _) hij (by omega)
    rw [lt_names] at h5
    rw [getElem!_pos d' i (by simpa using hi), getElem!_pos d' j (by simpa using hj)] at h5
    simpa using h5
  · refine ⟨by rw [entsI_len, hlen], .inr ⟨g, cap, putCells id 0 (entsI d'.toList).toArray cur, rfl, hbase, ?_, h1, h2, by simp [putCells, h3], ?_⟩⟩
    · unfold sortWorldK putRowK
      rw [hM, flat_ents]
      exact heap_sortedV _ hb
    · rw [show L.length * 3 = (entsI d'.toList).length by rw [entsI_len, hlen]]
      exact take_putCellsV cur _ (by rw [entsI_len, hlen, h3]; omega)
  · unfold sortWorldK putRowK
    exact grownBy_sortedV _
end Go.Proofs.YtplieplmhdfndaaGreatDoor
