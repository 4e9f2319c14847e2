/- Structs and arrays of integers: their cells, and a block of the call's own. Structs and arrays of integers by value: a copy of twelve, a copy of a root. A copy of a root: toRoot. Lists of snapshots: what they read as; findSnap. Plain facts on lists, marks and worlds that the laws' helpers share. -/
import Derived.Test.YtfkmnmopkblopaaGreatDoorZs01
import Derived.Test.YtfkmnmopkblopaaGreatDoorRows
import Derived.WalkLawsBesides
import Derived.Deep.MidRow
import Derived.Deep.WholeRow
import Derived.Laws.CopyOwn
import Derived.Laws.ResultCell
namespace Go.Proofs.YtfkmnmopkblopaaGreatDoor
set_option linter.unusedVariables false
set_option linter.unusedSimpArgs false
open Go.RowKit

/-- Integers as the cells of a struct or an array. -/
def cellsI (ds : List Int) : Array Value := (ds.map (Value.int .i64)).toArray
theorem cellsI_size (ds : List Int) : (cellsI ds).size = ds.length := by simp [cellsI]
theorem cellsI_get (ds : List Int) (k : Nat) (h : k < ds.length) : (cellsI ds)[k]? = some (.int .i64 (ds.getD k 0)) := by simp [cellsI, List.getD, h]
theorem cellsI_one (ds : List Int) : (cellsI ds).all (·.oneCell') = true := by
  rw [Array.all_eq_true_iff_forall_mem]
  intro v hv
  simp [cellsI] at hv
  obtain ⟨z, _, rfl⟩ := hv
  rfl
/-- A block of the call's own, whole. -/
def Blk (w : World) (b : Nat) (C : Array Value) (t : TypeId) : Prop := w.heap[b]? = some (.cells C t (0, 0))
theorem Blk.lt {w : World} {b : Nat} {C : Array Value} {t : TypeId} (h : Blk w b C t) : b < w.heap.size := (Array.getElem?_eq_some_iff.1 h).1
theorem Blk.cell {w : World} {b : Nat} {C : Array Value} {t : TypeId} (h : Blk w b C t) (k : Nat) : w.cell? ⟨b, k, none⟩ = C[k]? := cell_of_row w b k C t (0, 0) h
theorem Blk.frozen {w : World} {b : Nat} {C : Array Value} {t : TypeId} (h : Blk w b C t) (k : Nat) : w.frozen? ⟨b, k, none⟩ = false := frozen_of_row w b k C t h
theorem Blk.below {w w' : World} {b B : Nat} {C : Array Value} {t : TypeId} (h : Blk w b C t) (hb : Below B w w') (hB : b < B) : Blk w' b C t := (hb.block b hB).trans h
theorem Blk.set {w : World} {b : Nat} {C : Array Value} {t : TypeId} (h : Blk w b C t) (k : Nat) (v : Value) : Blk (w.setCell ⟨b, k, none⟩ v) b (C.setIfInBounds k v) t := heap_setCell_same w b k C t v h
theorem Blk.other {w : World} {b : Nat} {C : Array Value} {t : TypeId} (h : Blk w b C t) (a : Addr) (v : Value) (hne : b ≠ a.block) : Blk (w.setCell a v) b C t := (heap_setCell_other w a b v hne).trans h
theorem Blk.alloc {w : World} {b : Nat} {C : Array Value} {t : TypeId} (h : Blk w b C t) (o : Obj) : Blk (w.alloc o) b C t := (Below.heap_alloc w o b h.lt).trans h
theorem Blk.new (w : World) (C : Array Value) (t : TypeId) : Blk (w.alloc (.cells C t)) w.heap.size C t := heap_alloc_new w _
theorem Blk.range {w : World} {b : Nat} {ds : List Int} {t : TypeId} (h : Blk w b (cellsI ds) t) (o n : Nat) (hn : o + n ≤ ds.length) : w.rangeAt b o (((ds.drop o).take n).map (Value.int .i64)) := by
  intro j v hv
  rw [h.cell (o + j)]
  have hj : j < n := by
    rcases Nat.lt_or_ge j n with h1 | h1
    · exact h1
    · rw [List.getElem?_eq_none (by simp; omega)] at hv; cases hv
  simp [cellsI, hj] at hv ⊢
  exact hv

theorem Blk.row {w : World} {b : Nat} {C : Array Value} {t : TypeId} (h : Blk w b C t) (cs : Array Value) : Blk (w.setRow b cs) b cs t := by
  have h' : w.heap[b]? = some (.cells C t (0, 0)) := h
  show (w.setRow b cs).heap[b]? = _
  simp [World.setRow, Array.getElem?_modify, h']
/-- ds laid over xs from place o on. -/
def over (xs : List Int) (o : Nat) (ds : List Int) : List Int := xs.take o ++ ds ++ xs.drop (o + ds.length)
theorem over_len (xs : List Int) (o : Nat) (ds : List Int) (h : o + ds.length ≤ xs.length) : (over xs o ds).length = xs.length := by simp [over]; omega
theorem over_cons (xs : List Int) (o : Nat) (d : Int) (ds : List Int) (h : o + (d :: ds).length ≤ xs.length) : over (xs.set o d) (o + 1) ds = over xs o (d :: ds) := by
  have hl : o < xs.length := by simp at h; omega
  unfold over
  rw [List.take_succ_eq_append_getElem (by simpa using hl), List.take_set_of_le (Nat.le_refl _), List.getElem_set_self, List.drop_set_of_lt (by omega)]
  simp [Nat.add_assoc, Nat.add_comm 1]
theorem cellsI_set (xs : List Int) (o : Nat) (d : Int) : (cellsI xs).setIfInBounds o (.int .i64 d) = cellsI (xs.set o d) := by
  unfold cellsI
  apply Array.ext'
  rw [Array.toList_setIfInBounds]
  show (xs.map (Value.int .i64)).set o (Value.int .i64 d) = _
  rw [← List.map_set]
theorem Blk.cells {b : Nat} {t : TypeId} : ∀ (ds : List Int) {w : World} {xs : List Int} (o : Nat), Blk w b (cellsI xs) t → o + ds.length ≤ xs.length → Blk (w.setCells b o (ds.map (Value.int .i64))) b (cellsI (over xs o ds)) t
  | [], w, xs, o, h, _ => by simpa [over, World.setCells] using h
  | d :: ds, w, xs, o, h, hl => by
    have h1 := h.set o (.int .i64 d)
    rw [cellsI_set] at h1
    have h2 := Blk.cells ds (o + 1) h1 (by simp at hl ⊢; omega)
    rw [over_cons xs o d ds hl] at h2
    exact h2
theorem Blk.cells_other {b b' : Nat} {t : TypeId} {C : Array Value} : ∀ (vs : List Value) {w : World} (o : Nat), Blk w b' C t → b' ≠ b → Blk (w.setCells b o vs) b' C t
  | [], _, _, h, _ => h
  | v :: vs, _, o, h, hne => Blk.cells_other vs (o + 1) (h.other ⟨b, o, none⟩ v hne) hne
theorem below_cells {B b : Nat} {w0 : World} (hB : B ≤ b) : ∀ (vs : List Value) {w : World} (o : Nat), Below B w0 w → Below B w0 (w.setCells b o vs)
  | [], _, _, h => h
  | v :: vs, _, o, h => below_cells hB vs (o + 1) (h.setCell (p := ⟨b, o, none⟩) hB v)
theorem Blk.there {w : World} {b : Nat} {C : Array Value} {t : TypeId} (h : Blk w b C t) (o n : Nat) (hn : o + n ≤ C.size) : w.there b o n := fun j hj =>
  ⟨by rw [h.cell (o + j), Array.getElem?_eq_getElem (by omega)]; rfl, h.frozen _⟩

theorem set_cells (ds : List Int) (k n : Nat) (hk : k < n) (hd : ds.length = n) : (cellsI (ds.take k ++ List.replicate (n - k) 0)).setIfInBounds k (.int .i64 (ds.getD k 0)) = cellsI (ds.take (k + 1) ++ List.replicate (n - (k + 1)) 0) := by
  unfold cellsI
  apply Array.ext'
  rw [Array.toList_setIfInBounds]
  show ((ds.take k ++ List.replicate (n - k) 0).map (Value.int .i64)).set k (Value.int .i64 (ds.getD k 0)) = _
  rw [← List.map_set, set_fill ds (ds.getD k 0) 0 k n hk hd (by simp [List.getD, show k < ds.length by omega])]


theorem results_row_tmp {P : Program} {fn : Func} {p u : Tmp} {ty : TypeId} (h : fn.results = #[.cell p ty, .tmp u]) (tmps : Array Value) (w : World) (g : Nat) (t : TypeId) (cs : Array Value) (fr : Nat × Nat) (d : TypeDesc) (x : Value)
    (hp : tmps.getD p undef = .pointer (some ⟨g, 0, none⟩)) (hx : tmps.getD u undef = x) (hg : w.heap[g]? = some (.cells cs t fr))
    (hu : P.underlying ty = some d) (hd : (match d with | .struct _ | .array _ _ => true | _ => false) = true) (hi : (P.info? ty).map (·.size) = some cs.size) :
    (results fn tmps).run P w = .ok (.tuple #[.agg cs, x]) w := by
  rw [results_cell_tmp h, hp, hx]
  simp [asAddr, run_loadVar_row w g t ty cs fr d hg hu hd hi, Result.andThen]
theorem setRow_block (w : World) (g : Nat) (cs : Array Value) (k : Nat) (h : k ≠ g) : (w.setRow g cs).heap[k]? = w.heap[k]? := by
  simp [World.setRow, Array.getElem?_modify, Ne.symm h]
end Go.Proofs.YtfkmnmopkblopaaGreatDoor

namespace Go.Proofs.YtfkmnmopkblopaaGreatDoor
set_option linter.unusedVariables false
set_option linter.unusedSimpArgs false
open Go.RowKit

theorem info12 : (Tryz.prog.info? 32).map (·.size) = some 12 := by kernel_rfl
theorem info15 : (Tryz.prog.info? 34).map (·.size) = some 15 := by kernel_rfl

end Go.Proofs.YtfkmnmopkblopaaGreatDoor

namespace Go.Proofs.YtfkmnmopkblopaaGreatDoor
set_option linter.unusedVariables false
set_option linter.unusedSimpArgs false
open Go.RowKit

/-- The fifteen integers of a root. -/
def rootI (s : Int) (ds : List Int) (p q : Int) : List Int := s :: (ds ++ [p, q])
theorem rootI_len (s : Int) (ds : List Int) (p q : Int) (hd : ds.length = 12) : (rootI s ds p q).length = 15 := by simp [rootI, hd]
theorem rootI_get13 (s : Int) (ds : List Int) (p q : Int) (hd : ds.length = 12) : (cellsI (rootI s ds p q))[13]? = some (.int .i64 p) := by
  rw [cellsI_get _ _ (by rw [rootI_len s ds p q hd]; omega)]
  match ds, hd with | [_, _, _, _, _, _, _, _, _, _, _, _], _ => rfl
theorem rootI_get14 (s : Int) (ds : List Int) (p q : Int) (hd : ds.length = 12) : (cellsI (rootI s ds p q))[14]? = some (.int .i64 q) := by
  rw [cellsI_get _ _ (by rw [rootI_len s ds p q hd]; omega)]
  match ds, hd with | [_, _, _, _, _, _, _, _, _, _, _, _], _ => rfl
theorem root_build (s : Int) (ds : List Int) (p q : Int) (hd : ds.length = 12) : ((over (s :: List.replicate 14 0) 1 ds).set 13 p).set 14 q = rootI s ds p q := by
  match ds, hd with | [_, _, _, _, _, _, _, _, _, _, _, _], _ => rfl
theorem root_range (s : Int) (ds : List Int) (p q : Int) (hd : ds.length = 12) : ((rootI s ds p q).drop 1).take 12 = ds := by
  match ds, hd with | [_, _, _, _, _, _, _, _, _, _, _, _], _ => rfl

theorem over_at {w2 : World} {b : Nat} {t : TypeId} (s : Int) (ds : List Int) (hd : ds.length = 12) (h : Blk w2 b (cellsI (over (s :: List.replicate 14 0) 1 ds)) t) (k : Nat) (hk : k < 15) : ∃ u, w2.cell? ⟨b, k, none⟩ = some u := by
  rw [h.cell k]
  exact ⟨_, Array.getElem?_eq_getElem (by rw [cellsI_size, over_len _ _ _ (by simp [hd])]; simpa using hk)⟩

end Go.Proofs.YtfkmnmopkblopaaGreatDoor

namespace Go.Proofs.YtfkmnmopkblopaaGreatDoor
set_option linter.unusedVariables false
set_option linter.unusedSimpArgs false
open Go.RowKit

/-- The cells of a snapshot: nineteen, the second one a string. -/
structure IsSn (c : Array Value) (nm : ByteArray) : Prop where
  size : c.size = 19
  name : c[1]? = some (.string nm)
  one : c.all (·.oneCell') = true
/-- A list of snapshots' cells in a row. -/
def rowSn (L : List (Array Value × ByteArray)) : List Value := (L.map (·.1.toList)).flatten
theorem rowSn_len : ∀ (L : List (Array Value × ByteArray)), (∀ x ∈ L, IsSn x.1 x.2) → (rowSn L).length = L.length * 19
  | [], _ => rfl
  | x :: L, h => by
    have h1 := (h x (by simp)).size
    have h2 := rowSn_len L (fun y hy => h y (by simp [hy]))
    have e : rowSn (x :: L) = x.1.toList ++ rowSn L := rfl
    rw [e, List.length_append, h2, Array.length_toList, h1]
    simp [Nat.add_mul]; omega
theorem rowSn_get : ∀ (L : List (Array Value × ByteArray)), (∀ x ∈ L, IsSn x.1 x.2) → ∀ i j x, L[i]? = some x → j < 19 → (rowSn L)[i * 19 + j]? = x.1.toList[j]?
  | [], _, i, j, x, hx, _ => by simp at hx
  | y :: L, h, i, j, x, hx, hj => by
    have h1 := (h y (by simp)).size
    have e : rowSn (y :: L) = y.1.toList ++ rowSn L := rfl
    rw [e]
    cases i with
    | zero =>
      simp at hx
      subst hx
      rw [Nat.zero_mul, Nat.zero_add, List.getElem?_append_left (by rw [Array.length_toList, h1]; exact hj)]
    | succ i =>
      have h2 := rowSn_get L (fun z hz => h z (by simp [hz])) i j x (by simpa using hx) hj
      rw [show (i + 1) * 19 + j = 19 + (i * 19 + j) by omega, List.getElem?_append_right (by rw [Array.length_toList, h1]; omega), Array.length_toList, h1, Nat.add_sub_cancel_left]
      exact h2
theorem rowSn_append (L M : List (Array Value × ByteArray)) : rowSn (L ++ M) = rowSn L ++ rowSn M := by simp [rowSn]
/-- The slice value v reads in W as the list L of snapshots. -/
structure RdSn (W : World) (v : Value) (L : List (Array Value × ByteArray)) : Prop where
  all : ∀ x ∈ L, IsSn x.1 x.2
  row : ∃ a cap, v = .slice a L.length cap ∧ (0 < L.length → ∃ b off, a = some ⟨b, off, none⟩ ∧ b < W.heap.size ∧ ∀ (j : Nat) (u : Value), (rowSn L)[j]? = some u → W.cell? ⟨b, off + j, none⟩ = some u) ∧ L.length ≤ cap ∧ cap ≤ maxLen
theorem RdSn.below {W W' : World} {v : Value} {L : List (Array Value × ByteArray)} (h : RdSn W v L) (hb : Below W.heap.size W W') : RdSn W' v L := by
  obtain ⟨a, cap, e, hc, h1, h2⟩ := h.row
  refine ⟨h.all, a, cap, e, fun hn => ?_, h1, h2⟩
  obtain ⟨b, off, rfl, hlt, hcell⟩ := hc hn
  exact ⟨b, off, rfl, Nat.lt_of_lt_of_le hlt hb.size, fun j u hu => (hb.cell (p := ⟨b, off + j, none⟩) hlt).trans (hcell j u hu)⟩
theorem RdSn.at {W : World} {a : Option Addr} {cap : Nat} {L : List (Array Value × ByteArray)} (h : RdSn W (.slice a L.length cap) L) {i : Nat} {x : Array Value × ByteArray} (hx : L[i]? = some x) : ∃ b off, a = some ⟨b, off, none⟩ ∧ b < W.heap.size ∧ W.rangeAt b (off + i * 19) x.1.toList := by
  have hi : i < L.length := (List.getElem?_eq_some_iff.1 hx).1
  obtain ⟨a', cap', e, hc, _⟩ := h.row
  injection e with e1 e2 e3
  subst e1
  obtain ⟨b, off, rfl, hb, hcell⟩ := hc (by omega)
  refine ⟨b, off, rfl, hb, fun j u hj => ?_⟩
  have hjl : j < 19 := by
    have := (List.getElem?_eq_some_iff.1 hj).1
    rw [Array.length_toList, (h.all x (List.mem_of_getElem? hx)).size] at this
    exact this
  have := hcell (i * 19 + j) u ((rowSn_get L h.all i j x hx hjl).trans hj)
  rw [← Nat.add_assoc] at this
  exact this
theorem infoSn : (Tryz.prog.info? 41).map (·.size) = some 19 := by kernel_rfl
/-- A snapshot of that name is there. -/
def hasN (L : List (Array Value × ByteArray)) (nm : ByteArray) : Bool := L.any fun x => x.2.toList == nm.toList

set_option maxRecDepth 100000 in
theorem isName_any (c : Array Value) (nm nm' : ByteArray) (b : Nat) (w : World) (h : IsSn c nm) (hn : w.cell? ⟨b, 0, none⟩ = some (.string nm')) (hb : b < w.heap.size) :
    Calls Tryz.prog 58 #[.agg c, .pointer (some ⟨b, 0, none⟩)] w fun e w' => e = .returned (.bool (nm.toList == nm'.toList)) ∧ Below w.heap.size w w' := by
  have HK := hide (And.intro (Blk.new w c 41) (show Below w.heap.size w (w.alloc (.cells c 41)) from (Below.refl _ _).alloc (Nat.le_refl _) _))
  have c1 := (HK.out.1.cell 1).trans h.name
  have c2 := (HK.out.2.cell (p := ⟨b, 0, none⟩) hb).trans hn
  clear h hn
  go_enter Tryz.func58, Tryz.ntmps58
  go_wp2
  go_ret
  exact ⟨rfl, HK.out.2⟩
set_option maxRecDepth 100000 in
set_option maxHeartbeats 1000000 in
theorem indexFunc_any (v : Value) (L : List (Array Value × ByteArray)) (nm : ByteArray) (b : Nat) (w : World) (h : RdSn w v L) (hn : w.cell? ⟨b, 0, none⟩ = some (.string nm)) (hb : b < w.heap.size) :
    Calls Tryz.prog 57 #[v, .func (Fn.func 58) #[] #[.pointer (some ⟨b, 0, none⟩)]] w fun e w' => ((∃ k : Nat, e = .returned (.int .i64 (k : Int)) ∧ k < L.length ∧ hasN L nm = true) ∨ (e = .returned (.int .i64 (-1)) ∧ hasN L nm = false)) ∧ Below w.heap.size w w' := by
  obtain ⟨a, cap, rfl⟩ : ∃ a cap, v = .slice a L.length cap := by obtain ⟨a, cap, e, _⟩ := h.row; exact ⟨a, cap, e⟩
  have hm : L.length ≤ 9223372036854775807 := by obtain ⟨a, cap, _, _, g1, g2⟩ := h.row; unfold maxLen at g2; omega
  have H := hide (And.intro h hn)
  clear h hn
  go_enter Tryz.func57, Tryz.ntmps57
  go_wp2
  go_loopw [5, 8] (fun _ i wr => ∃ k : Nat, k ≤ L.length ∧ i = .int .i64 (k : Int) ∧ hasN (L.take k) nm = false ∧ Below w.heap.size w wr) (fun _ i _ => L.length - (intOf i).toNat)
  case atStart => exact ⟨0, Nat.zero_le _, rfl, rfl, Below.refl _ _⟩
  case round =>
    obtain ⟨k, hk, rfl, hno, hbel⟩ := hrel
    have HB := hide (And.intro hno hbel)
    clear hno hbel
    by_cases hlt : k < L.length
    · obtain ⟨x, hx⟩ : ∃ x, L[k]? = some x := ⟨_, List.getElem?_eq_getElem hlt⟩
      obtain ⟨g, off, e0, hg, hrg⟩ := (H.out.1.below HB.out.2).at hx
      subst e0
      have HS := hide (H.out.1.all x (List.mem_of_getElem? hx))
      have HRg := hide hrg
      have HX := hide hx
      clear hrg hx
      go_wp2_with (first | (refine wpList_load_mid rfl 41 _ rfl g (off + k * 19) rfl x.1.toList _ HRg.out Tryz.underlying41 rfl (by rw [Array.length_toList, HS.out.size]; exact infoSn) ?_) | fail)
      refine (isName_any x.1 x.2 nm b wr HS.out ((HB.out.2.cell (p := ⟨b, 0, none⟩) hb).trans H.out.2) (Nat.lt_of_lt_of_le hb HB.out.2.size)).mono ?_
      rintro e w1 ⟨rfl, b1⟩
      have H1 := hide (HB.out.2.trans (b1.mono HB.out.2.size))
      clear b1
      have HT := hide (show hasN (L.take (k + 1)) nm = (x.2.toList == nm.toList) from by
        have e : L.take (k + 1) = L.take k ++ [x] := by rw [List.take_add_one, HX.out]; rfl
        have h0 := HB.out.1
        unfold hasN at h0 ⊢
        rw [e, List.any_append, h0]
        simp)
      cases hz : (x.2.toList == nm.toList) with
      | true =>
        go_wp2
        go_ret
        refine ⟨.inl ⟨k, rfl, hlt, ?_⟩, H1.out⟩
        unfold hasN
        exact List.any_eq_true.2 ⟨x, List.mem_of_getElem? HX.out, hz⟩
      | false =>
        go_wp2
        go_roundw
        case rel => exact ⟨k + 1, by omega, by go_num, HT.out.trans hz, H1.out⟩
        case measure => simp [intOf]; omega
    · have hkl : k = L.length := by omega
      subst hkl
      go_wp2
      go_ret
      refine ⟨.inr ⟨rfl, ?_⟩, HB.out.2⟩
      have h0 := HB.out.1
      rw [List.take_length] at h0
      exact h0
end Go.Proofs.YtfkmnmopkblopaaGreatDoor

namespace Go.Proofs.YtfkmnmopkblopaaGreatDoor
open Go.RowKit

/-- The same of values whose slots the walk can read: one of so many elements. -/
def At (k : IntKind) (w : World) (v : Value) (n : Nat) (zs : List Int) : Prop :=
  (∃ a cap, v = .slice a n cap ∧ n < 1) ∨ ∃ b off cap, v = .slice (some ⟨b, off, none⟩) n cap ∧ b < w.heap.size ∧ ∀ i, i < n → w.cell? ⟨b, off + i, none⟩ = some (.int k (zs.getD i 0))

theorem take_eq_step (xs ys : List Int) (k : Nat) (hx : k < xs.length) (hy : k < ys.length) (h : xs.take k = ys.take k) (he : xs.getD k 0 = ys.getD k 0) : xs.take (k + 1) = ys.take (k + 1) := by
  rw [List.take_succ_eq_append_getElem hx, List.take_succ_eq_append_getElem hy, h]
  simp only [List.getD, List.getElem?_eq_getElem hx, List.getElem?_eq_getElem hy, Option.getD_some] at he
  rw [he]

/-- The marks from k on: n bytes. -/
def mk8 (k n : Nat) : List Int := (List.range n).map fun i => ((k + i : Nat) : Int) % 256
/-- The marks from k on: n integers. -/
def mk64 (k n : Nat) : List Int := (List.range n).map fun i => ((k + i : Nat) : Int)
theorem mk8_len (k n : Nat) : (mk8 k n).length = n := by simp [mk8]
theorem mk64_len (k n : Nat) : (mk64 k n).length = n := by simp [mk64]
theorem mk8_get (k n i : Nat) (h : i < n) : (mk8 k n)[i]? = some (((k + i : Nat) : Int) % 256) := by simp [mk8, h]
theorem mk64_get (k n i : Nat) (h : i < n) : (mk64 k n)[i]? = some ((k + i : Nat) : Int) := by simp [mk64, h]
theorem mk8_getD (k n i : Nat) (h : i < n) : (mk8 k n).getD i 0 = ((k + i : Nat) : Int) % 256 := by simp [List.getD, mk8_get k n i h]
theorem mk64_getD (k n i : Nat) (h : i < n) : (mk64 k n).getD i 0 = ((k + i : Nat) : Int) := by simp [List.getD, mk64_get k n i h]

theorem set_over {α : Type} (ms xs : List α) (z : α) (k n : Nat) (hk : k < n) (hm : ms.length = n) (hx : xs.length = n) (he : ms[k]? = some z) :
    (ms.take k ++ xs.drop k).set k z = ms.take (k + 1) ++ xs.drop (k + 1) := by
  apply List.ext_getElem?
  intro i
  rw [List.getElem?_set]
  by_cases hik : k = i
  · subst hik
    rw [if_pos rfl, if_pos (by simp; omega), List.getElem?_append_left (by simp; omega), List.getElem?_take, if_pos (by omega), he]
  · rw [if_neg hik]
    by_cases hlt : i < k
    · rw [List.getElem?_append_left (by simp; omega), List.getElem?_append_left (by simp; omega), List.getElem?_take, List.getElem?_take, if_pos hlt, if_pos (by omega)]
    · rw [List.getElem?_append_right (by simp; omega), List.getElem?_append_right (by simp; omega), List.getElem?_drop, List.getElem?_drop]
      simp only [List.length_take]
      congr 1
      omega

theorem grownBy_trans {w w1 w2 : World} {r : Option Nat} (h1 : w.grownBy w1 r) (h2 : w1.grownBy w2 r) : w.grownBy w2 r :=
  ⟨h2.os.trans h1.os, h2.tape.trans h1.tape, h2.output.trans h1.output, Nat.le_trans h1.size h2.size, fun k hk hn => (h2.block k (Nat.lt_of_lt_of_le hk h1.size) hn).trans (h1.block k hk hn)⟩

end Go.Proofs.YtfkmnmopkblopaaGreatDoor
