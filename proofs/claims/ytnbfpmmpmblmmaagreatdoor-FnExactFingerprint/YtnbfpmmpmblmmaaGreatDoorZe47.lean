/- The law on StateCheck, walked. A node that came in, opened. A state that came in, opened. Copies by append to an empty literal. What a state's fingerprint is made of: mathematics; an append of bytes that are read, maybe none. -/
import Derived.Test.YtnbfpmmpmblmmaaGreatDoorZe46
import Derived.Test.YtnbfpmmpmblmmaaGreatDoorZe45
import Derived.ProofKit
import Derived.OpenShut
import Derived.Test.YtnbfpmmpmblmmaaGreatDoorZe12
import Derived.Test.YtnbfpmmpmblmmaaGreatDoorZe05
import Derived.Maps.AppendAt
import Derived.Test.YtnbfpmmpmblmmaaGreatDoorZe38
import Derived.Test.YtnbfpmmpmblmmaaGreatDoorZe15
namespace Go.Proofs.YtnbfpmmpmblmmaaGreatDoor
set_option linter.unusedVariables false
set_option linter.unusedSimpArgs false
open Go.RowKit

theorem infoStL : (Tryz.prog.info? 24).map (·.size) = some 2 := by kernel_rfl
theorem oneSt (C : Int) (a : Option Addr) (n c : Nat) : (#[.int .i64 C, Value.slice a n c] : Array Value).all (·.oneCell') = true := by kernel_rfl
theorem below_setRowS {B g : Nat} {w0 w : World} (h : Below B w0 w) (hg : B ≤ g) (cs : Array Value) : Below B w0 (w.setRow g cs) :=
  h.trans ⟨rfl, rfl, rfl, by simp [World.setRow], fun k hk => setRow_block w g cs k (by omega)⟩
theorem nd_tot (L : List Nd) (i : Nat) (hi : i < L.length) : (ndAt L i).d.length ≤ totN L := by
  have h1 := totN_succ L i hi
  have h2 := totN_le L (i + 1)
  omega
theorem OwnN.nilV {W : World} {base : Nat} {e : TypeId} {m : Nat} {v : Value} {L : List NE} {vs : List Value} (h : OwnN W base e m v L vs) : NilV vs := by
  intro i a n c hu ha
  have hi : i < vs.length := (List.getElem?_eq_some_iff.1 hu).1
  rcases (h.dat i _ _ hu (List.getElem?_eq_getElem (by rw [← h.len]; exact hi))).2 with ⟨e, _⟩ | ⟨g, cap, cur, e, _⟩
  · injection e
  · subst ha
    injection e with e
    cases e
theorem st_full {w : World} {b : Nat} {C : Int} {v : Value} {t : TypeId} (h : Blk w b #[.int .i64 C, v] t) : w.rangeAt b 0 [.int .i64 C, v] := by
  intro j u hu
  rw [Nat.zero_add, h.cell j]
  simpa using hu
end Go.Proofs.YtnbfpmmpmblmmaaGreatDoor

namespace Go.Proofs.YtnbfpmmpmblmmaaGreatDoor
set_option linter.unusedVariables false
set_option linter.unusedSimpArgs false
open Go.ChangeShapes Go.WideShapes Go.ChangeAt Go.RowKit

theorem cells1n : Tryz.prog.cellsOf 3 = 1 := by kernel_rfl
theorem cells1b : Tryz.prog.cellsOf 48 = 1 := by kernel_rfl
theorem cellsLN : Tryz.prog.cellsOf 50 = 10 := by kernel_rfl
theorem take_oneN {l : List Value} {o : Nat} {c : Value} (h : (l.drop o).take 1 = [c]) : l[o]? = some c := by
  have h2 : ((l.drop o).take 1)[0]? = some c := by rw [h]; rfl
  simpa using h2
theorem open_bytes {H : Type} {enc : TypeId × Value → H} {W : World} {base : Nat} {held : Bool} {fuel : Nat} {cs : List Value} {x : DataW H × List MemPlace} (hf : DataW.trod enc Tryz.prog W base (fun _ => true) held fuel 48 cs = some x) :
    ∃ v zs, cs = [v] ∧ Rd .u8 W v zs ∧ ∀ z ∈ zs, 0 ≤ z ∧ z < 256 := by
  rcases open_ints Tryz.underlying48 Tryz.underlying5 (by kernel_rfl) hf with ⟨hcs, _⟩ | ⟨x, l, c, zs, hcs, _, hl, hm, hz, _, hcell, hwz⟩
  · have w0 : IsRow .u8 W none 0 0 [] := .inl ⟨rfl, rfl, rfl, rfl⟩
    obtain ⟨hrd, hlen, hwf⟩ := Rd.of_row w0
    exact ⟨_, _, hcs, hrd, bytes_bd hwf⟩
  · have w0 : IsRow .u8 W (some x) l c zs := .inr ⟨_, rfl, hl, hm, by simpa using hz, hcell, hwz⟩
    obtain ⟨hrd, hlen, hwf⟩ := Rd.of_row w0
    exact ⟨_, _, hcs, hrd, bytes_bd hwf⟩
set_option maxRecDepth 100000 in
theorem open_node_cells {H : Type} {enc : TypeId × Value → H} {W : World} {base : Nat} {held : Bool} {fuel : Nat} {cs : List Value} {x : DataW H × List MemPlace} (hsz : cs.length = 10) (hf : DataW.trod enc Tryz.prog W base (fun _ => true) held fuel 50 cs = some x) :
    ∃ k l m u g p e t c v zs, cs = [.int .i64 k, .int .i64 l, .int .i64 m, .int .i64 u, .int .i64 g, .int .i64 p, .int .i64 e, .int .i64 t, .int .i64 c, v] ∧ Rd .u8 W v zs ∧ ∀ z ∈ zs, 0 ≤ z ∧ z < 256 := by
  obtain ⟨xs, n, _, _, _, hl, hfld⟩ := DataW.trod_struct Tryz.underlying50 hf
  have hl10 : xs.length = 10 := hl
  have h0 := hfld 0 _ rfl
  rw [List.getElem?_eq_getElem (show 0 < xs.length by omega)] at h0
  obtain ⟨x0, e0, _⟩ := DataW.trod_int Tryz.underlying3 h0
  change (cs.drop 0).take (Tryz.prog.cellsOf 3) = _ at e0
  have h1 := hfld 1 _ rfl
  rw [List.getElem?_eq_getElem (show 1 < xs.length by omega)] at h1
  obtain ⟨x1, e1, _⟩ := DataW.trod_int Tryz.underlying3 h1
  change (cs.drop 1).take (Tryz.prog.cellsOf 3) = _ at e1
  have h2 := hfld 2 _ rfl
  rw [List.getElem?_eq_getElem (show 2 < xs.length by omega)] at h2
  obtain ⟨x2, e2, _⟩ := DataW.trod_int Tryz.underlying3 h2
  change (cs.drop 2).take (Tryz.prog.cellsOf 3) = _ at e2
  have h3 := hfld 3 _ rfl
  rw [List.getElem?_eq_getElem (show 3 < xs.length by omega)] at h3
  obtain ⟨x3, e3, _⟩ := DataW.trod_int Tryz.underlying3 h3
  change (cs.drop 3).take (Tryz.prog.cellsOf 3) = _ at e3
  have h4 := hfld 4 _ rfl
  rw [List.getElem?_eq_getElem (show 4 < xs.length by omega)] at h4
  obtain ⟨x4, e4, _⟩ := DataW.trod_int Tryz.underlying3 h4
  change (cs.drop 4).take (Tryz.prog.cellsOf 3) = _ at e4
  have h5 := hfld 5 _ rfl
  rw [List.getElem?_eq_getElem (show 5 < xs.length by omega)] at h5
  obtain ⟨x5, e5, _⟩ := DataW.trod_int Tryz.underlying3 h5
  change (cs.drop 5).take (Tryz.prog.cellsOf 3) = _ at e5
  have h6 := hfld 6 _ rfl
  rw [List.getElem?_eq_getElem (show 6 < xs.length by omega)] at h6
  obtain ⟨x6, e6, _⟩ := DataW.trod_int Tryz.underlying3 h6
  change (cs.drop 6).take (Tryz.prog.cellsOf 3) = _ at e6
  have h7 := hfld 7 _ rfl
  rw [List.getElem?_eq_getElem (show 7 < xs.length by omega)] at h7
  obtain ⟨x7, e7, _⟩ := DataW.trod_int Tryz.underlying3 h7
  change (cs.drop 7).take (Tryz.prog.cellsOf 3) = _ at e7
  have h8 := hfld 8 _ rfl
  rw [List.getElem?_eq_getElem (show 8 < xs.length by omega)] at h8
  obtain ⟨x8, e8, _⟩ := DataW.trod_int Tryz.underlying3 h8
  change (cs.drop 8).take (Tryz.prog.cellsOf 3) = _ at e8
  have h9 := hfld 9 _ rfl
  rw [List.getElem?_eq_getElem (show 9 < xs.length by omega)] at h9
  obtain ⟨v, zs, e9, hrd, hbd⟩ := open_bytes h9
  change (cs.drop 9).take (Tryz.prog.cellsOf 48) = _ at e9
  rw [cells1b] at e9
  rw [cells1n] at e0 e1 e2 e3 e4 e5 e6 e7 e8
  have f0 := take_oneN e0
  have f1 := take_oneN e1
  have f2 := take_oneN e2
  have f3 := take_oneN e3
  have f4 := take_oneN e4
  have f5 := take_oneN e5
  have f6 := take_oneN e6
  have f7 := take_oneN e7
  have f8 := take_oneN e8
  have f9 := take_oneN e9
  refine ⟨x0, x1, x2, x3, x4, x5, x6, x7, x8, v, zs, ?_, hrd, hbd⟩
  apply List.ext_getElem?
  intro i
  rcases Nat.lt_or_ge i 10 with h | h
  · match i, h with
    | 0, _ => exact f0
    | 1, _ => exact f1
    | 2, _ => exact f2
    | 3, _ => exact f3
    | 4, _ => exact f4
    | 5, _ => exact f5
    | 6, _ => exact f6
    | 7, _ => exact f7
    | 8, _ => exact f8
    | 9, _ => exact f9
  · rw [List.getElem?_eq_none (by omega), List.getElem?_eq_none (by simp; omega)]
end Go.Proofs.YtnbfpmmpmblmmaaGreatDoor

namespace Go.Proofs.YtnbfpmmpmblmmaaGreatDoor
set_option linter.unusedVariables false
set_option linter.unusedSimpArgs false
open Go.ChangeShapes Go.WideShapes Go.ChangeAt Go.RowKit

theorem cellsLNS : Tryz.prog.cellsOf 22 = 1 := by kernel_rfl
theorem cellsLS : Tryz.prog.cellsOf 24 = 2 := by kernel_rfl
/-- Each node is known: so is the list. -/
theorem gatherN (n : Nat) (f : Nat → Nd → Value → Prop) (h : ∀ k, k < n → ∃ x u, f k x u) : ∃ (L : List Nd) (us : List Value), L.length = n ∧ us.length = n ∧ ∀ k, k < n → ∃ x u, L[k]? = some x ∧ us[k]? = some u ∧ f k x u := by
  induction n with
  | zero => exact ⟨[], [], rfl, rfl, fun k hk => by omega⟩
  | succ n ih =>
    obtain ⟨Q, us, h1, h2, h3⟩ := ih (fun k hk => h k (by omega))
    obtain ⟨b, u, hb⟩ := h n (by omega)
    refine ⟨Q ++ [b], us ++ [u], by simp [h1], by simp [h2], fun k hk => ?_⟩
    by_cases hkn : k < n
    · obtain ⟨b', u', e1, e2, e3⟩ := h3 k hkn
      exact ⟨b', u', by rw [List.getElem?_append_left (by omega)]; exact e1, by rw [List.getElem?_append_left (by omega)]; exact e2, e3⟩
    · obtain rfl : k = n := by omega
      exact ⟨b, u, by rw [← h1, List.getElem?_append_right (Nat.le_refl _)]; simp, by rw [← h2, List.getElem?_append_right (Nat.le_refl _)]; simp, hb⟩
set_option maxRecDepth 100000 in
theorem open_nodes {H : Type} {enc : TypeId × Value → H} {W : World} {base : Nat} {held : Bool} {fuel : Nat} {cs : List Value} {x : DataW H × List MemPlace} (hf : DataW.trod enc Tryz.prog W base (fun _ => true) held fuel 22 cs = some x) :
    ∃ (v : Value) (L : List Nd) (us : List Value), cs = [v] ∧ RdN W 9 v (L.map ndE) us ∧ ∀ i, i < L.length → ∀ z ∈ (ndAt L i).d, 0 ≤ z ∧ z < 256 := by
  rcases DataW.trod_slice Tryz.underlying22 hf with ⟨hcs, _⟩ | ⟨x, len, cap, elems, rest, n, _, hcs, _, hb, hl, hm, hlen, hel, _, _⟩
  · exact ⟨_, [], [], hcs, ⟨rfl, fun l h => (by cases h), ⟨none, 0, rfl, fun h => absurd h (by simp), by simp, by simp⟩, fun i u l h => (by simp at h)⟩, fun i hi => (by simp at hi)⟩
  · rw [cellsLN] at hel
    obtain ⟨L, us, h1, h2, h3⟩ := gatherN len (fun k y u => (∀ (j : Nat) (c : Value), ((ndE y).1 ++ [u])[j]? = some c → W.cell? ((x.add (k * 10)).add j) = some c) ∧ Rd .u8 W u y.d ∧ ∀ z ∈ y.d, 0 ≤ z ∧ z < 256) (fun k hk => by
      have h1 := hel k hk
      rw [List.getElem?_eq_getElem (by omega), Option.bind_eq_some_iff] at h1
      obtain ⟨cs, hcs, hy⟩ := h1
      obtain ⟨_, hcl, hcc⟩ := World.cells?_some hcs
      obtain ⟨q0, q1, q2, q3, q4, q5, q6, q7, q8, u, zs, rfl, hr, hz⟩ := open_node_cells hcl hy
      refine ⟨⟨q0, q1, q2, q3, q4, q5, q6, q7, q8, zs⟩, u, fun j c hc => ?_, hr, hz⟩
      have hj : j < 10 := (List.getElem?_eq_some_iff.1 hc).1
      rw [hcc j (by omega)]
      exact hc)
    refine ⟨_, L, us, hcs, ⟨by simp [h1, h2], ndE_pre _, ⟨some x, cap, by simp [h1], fun hn => ?_, by simp [h1]; exact hl, hm⟩, fun i u l hu hl => ?_⟩, fun i hi z hz => ?_⟩
    · simp [h1] at hn
      obtain ⟨y0, u0, _, _, hc0, _⟩ := h3 0 hn
      have hc0 := hc0 0 (.int .i64 y0.k) rfl
      obtain ⟨b, off, spot⟩ := x
      have hspot : spot = none := by simpa [Addr.add] using World.cell?_spot hc0
      subst hspot
      refine ⟨b, off, rfl, by rw [Addr.add_mid, Addr.add_mid] at hc0; simpa using cell_lt hc0, fun j u hu => ?_⟩
      have hjl : j < len * 10 := by
        have := (List.getElem?_eq_some_iff.1 hu).1
        rw [cellsN_len 9 _ _ (by simp [h1, h2]) (ndE_pre _)] at this
        simp [h1] at this
        exact this
      obtain ⟨yk, uk, e1, e2, ck, _⟩ := h3 (j / 10) (by omega)
      have hg := cellsN_get 9 us (L.map ndE) (by simp [h1, h2]) (ndE_pre _) (j / 10) (j % 10) uk (ndE yk) e2 (by rw [List.getElem?_map, e1]; rfl) (by omega)
      rw [show j / 10 * (9 + 1) + j % 10 = j by omega] at hg
      rw [hg] at hu
      have c0 := ck (j % 10) u hu
      rw [Addr.add_mid, Addr.add_mid] at c0
      rw [show off + j = off + j / 10 * 10 + j % 10 by omega]
      exact c0
    · have hi : i < len := by rw [← h2]; exact (List.getElem?_eq_some_iff.1 hu).1
      obtain ⟨yk, uk, e1, e2, _, hr, _⟩ := h3 i hi
      rw [e2] at hu
      cases hu
      rw [List.getElem?_map, e1] at hl
      cases hl
      exact hr
    · obtain ⟨yk, uk, e1, e2, _, _, hz'⟩ := h3 i (by omega)
      have e : ndAt L i = yk := by unfold ndAt; simp [List.getD, e1]
      rw [e] at hz
      exact hz' z hz
set_option maxRecDepth 100000 in
/-- A state that came in. -/
theorem open_state {H : Type} {enc : TypeId × Value → H} {W : World} {r : Reach} {b0 base : Nat} {held : Bool} {v : Value} {d : DataW H} {pl : List MemPlace} (hv : Value.okWide Tryz.prog W r b0 24 v) (h : DataW.Trod enc Tryz.prog W base (fun _ => true) held 24 v d pl) :
    ∃ (C : Int) (u : Value) (L : List Nd) (us : List Value), v = .agg #[.int .i64 C, u] ∧ RdN W 9 u (L.map ndE) us ∧ ∀ i, i < L.length → ∀ z ∈ (ndAt L i).d, 0 ≤ z ∧ z < 256 := by
  obtain ⟨cs, rfl, hsz⟩ := Go.WideShapes.okWide_struct Tryz.underlying24 hv
  rw [cellsLS] at hsz
  obtain ⟨fuel, hf⟩ := h
  obtain ⟨xs, n, _, _, _, hl, hfld⟩ := DataW.trod_struct Tryz.underlying24 hf
  have hc : (Value.agg cs).cells.toList = cs.toList := rfl
  rw [hc] at hfld
  have hl2 : xs.length = 2 := hl
  have h0 := hfld 0 _ rfl
  rw [List.getElem?_eq_getElem (show 0 < xs.length by omega)] at h0
  have h1 := hfld 1 _ rfl
  rw [List.getElem?_eq_getElem (show 1 < xs.length by omega)] at h1
  obtain ⟨C, e0, _⟩ := DataW.trod_int Tryz.underlying3 h0
  change (cs.toList.drop 0).take (Tryz.prog.cellsOf 3) = _ at e0
  rw [cells1n] at e0
  obtain ⟨u, L, us, e1, hr, hz⟩ := open_nodes h1
  change (cs.toList.drop 1).take (Tryz.prog.cellsOf 22) = _ at e1
  rw [cellsLNS] at e1
  refine ⟨C, u, L, us, ?_, hr, hz⟩
  congr 1
  apply Array.ext'
  have hlen : cs.toList.length = 2 := by rw [Array.length_toList, hsz]
  have e2 : cs.toList = (cs.toList.drop 0).take 1 ++ (cs.toList.drop 1).take 1 := by
    rw [List.drop_zero, List.take_of_length_le (l := cs.toList.drop 1) (by rw [List.length_drop, hlen]; omega), List.take_append_drop]
  rw [e2, e0, e1]
  rfl
end Go.Proofs.YtnbfpmmpmblmmaaGreatDoor

namespace Go.Proofs.YtnbfpmmpmblmmaaGreatDoor
set_option linter.unusedVariables false
set_option linter.unusedSimpArgs false
open Go.RowKit

theorem own_emptyM (w : World) (e : TypeId) (sz : Nat) : (w.alloc (.cells #[] e)).ownsRow w.heap.size e sz (.slice (some ⟨w.heap.size, 0, none⟩) 0 0) 0 [] :=
  ⟨by simp, .inr ⟨w.heap.size, 0, #[], rfl, Nat.le_refl _, heap_alloc_new w _, Nat.le_refl _, by simp, by simp, by simp⟩⟩
theorem run_append_emptyM {P : Program} {w : World} (base : Nat) (t ty e : TypeId) (i : TypeInfo) (size : Nat) (ht : P.underlying t = some (.slice e)) (hi : P.info? e = some i)
    (v : Value) (n : Nat) (xs : List Value) (hown : w.ownsRow base e size v n xs) (a : Option Addr) (c : Nat) :
    (Builtin.append_ #[t, t] ty #[v, .slice a 0 c]).run P w = .ok v w := by
  rcases hown.2 with ⟨rfl, rfl⟩ | ⟨g, cap, cur, rfl, _, _, hnc, _⟩
  · cases a <;> simp [Builtin.append_, run_underlying ht, sizeOf, typeInfo, hi, Builtin.lenOf, Builtin.firstCells, loadCells, loadCellsFrom]
  · cases a <;> simp [Builtin.append_, run_underlying ht, sizeOf, typeInfo, hi, Builtin.lenOf, Builtin.firstCells, hnc, storeCells, loadCells, loadCellsFrom]
theorem wpList_append_emptyM {P : Program} {w : World} {ops : Array Oper} {rest : List Oper} {o : Oper} {a : Act} {Q : Exit → Act → World → Prop} (hgd : o.guard = none) (s x : Operand) (t : TypeId)
    (ho : o.op = .call { callee := .builtin .append, args := #[s, x], argTypes := #[t, t] })
    (base : Nat) (e : TypeId) (i : TypeInfo) (size : Nat) (ht : P.underlying t = some (.slice e)) (hi : P.info? e = some i)
    (v : Value) (n : Nat) (xs : List Value) (hs : a.eval s = v) (hown : w.ownsRow base e size v n xs) (ad : Option Addr) (c : Nat) (hx : a.eval x = .slice ad 0 c)
    (h : wpList P ops Q rest (a.put o.dst v) w) : wpList P ops Q (o :: rest) a w := by
  refine wpList_plain hgd fun K hK => ?_
  have hrun := run_append_emptyM (P := P) (w := w) base t o.type e i size ht hi v n xs hown ad c
  unfold Oper.wp
  simp [execOp, ho, resolve, invoke, builtin, hs, hx, hrun, Result.andThen]
  exact hK _ _ h
end Go.Proofs.YtnbfpmmpmblmmaaGreatDoor

namespace Go.Proofs.YtnbfpmmpmblmmaaGreatDoor
set_option linter.unusedVariables false
set_option linter.unusedSimpArgs false
open Go.RowKit

theorem wpList_append_rdB {P : Program} (w : World) {ops : Array Oper} {rest : List Oper} {o : Oper} {a : Act} {Q : Exit → Act → World → Prop}
    (hg : o.guard = none) (s x : Operand) (t : TypeId) (hop : o.op = Op.call { callee := Callee.builtin Builtin.append, args := #[s, x], argTypes := #[t, t] })
    (base : Nat) (e : TypeId) (i : TypeInfo) (h1 : P.underlying t = some (.slice e)) (h2 : P.info? e = some i) (h3 : i.zero = some (.int .u8 0)) (h4 : i.size = 1) (h5 : i.bytes = 1)
    (sv : Value) (n : Nat) (xs : List Int) (hs : a.eval s = sv) (hown : w.ownsRow base e 1 sv n (xs.map (Value.int .u8)))
    (v : Value) (zs : List Int) (hx : a.eval x = v) (hr : Rd .u8 w v zs) (hb : n + zs.length ≤ 1000000000) (hbase : base ≤ w.heap.size)
    (hK : ∀ a' c' m w', m = n + zs.length → w'.ownsRow base e 1 (.slice a' m c') m ((xs ++ zs).map (Value.int .u8)) → w.grownBy w' sv.ownBlock → wpList P ops Q rest (a.put o.dst (.slice a' m c')) w') :
    wpList P ops Q (o :: rest) a w := by
  by_cases hz : 0 < zs.length
  · obtain ⟨bd, off, cp, rfl, hbw, _, _, hcell⟩ := hr.partsC hz
    refine wpList_append_own_at _ hg s x t hop base e i (.int .u8 0) 1 1 h1 h2 h3 h4 h5 rfl (by decide) sv n _ hs hown ⟨bd, off, none⟩ zs.length cp (zs.map (Value.int .u8)) hx (by simp) (fun j u hj => ?_) (ints_oneCell _ _) (by unfold maxLen; omega) (by omega) hbase ?_
    · have hjl : j < zs.length := by
        rcases Nat.lt_or_ge j zs.length with h | h
        · exact h
        · rw [List.getElem?_eq_none (by simpa using h)] at hj; cases hj
      rw [Addr.add_mid, hcell j hjl]
      rw [List.getElem?_map, List.getElem?_eq_getElem hjl] at hj
      simp at hj
      rw [← hj]
      simp [List.getD, hjl]
    · intro v' w' r1 r2 _ _
      obtain ⟨a', c', rfl⟩ := own_shape r1
      exact hK a' c' _ w' rfl (by rw [List.map_append]; exact r1) r2
  · have hz0 : zs = [] := List.eq_nil_of_length_eq_zero (by omega)
    subst hz0
    obtain ⟨a3, c3, rfl⟩ : ∃ a3 c3, v = .slice a3 0 c3 := by obtain ⟨a3, c3, e3, _⟩ := hr; exact ⟨a3, c3, e3⟩
    refine wpList_append_emptyM hg s x t hop base e i 1 h1 h2 _ n _ hs hown a3 c3 hx ?_
    obtain ⟨a', c', rfl⟩ := own_shape hown
    exact hK a' c' n w (by simp) (by simpa using hown) (World.grownBy.refl _ _)

theorem grown_base {w w' : World} {base n sz : Nat} {e : TypeId} {v : Value} {xs : List Value} (h : w.ownsRow base e sz v n xs) (hg : w.grownBy w' v.ownBlock) (hb : base ≤ w.heap.size) : Below base w w' := (Below.refl _ _).grown hg hb (fun r e => (h.lt r e).1)
theorem wpList_store_newF {P : Program} {ops : Array Oper} {rest : List Oper} {o : Oper} {a : Act} {w : World} {Q : Exit → Act → World → Prop} (B : Nat) (W0 : World) (hgd : o.guard = none) (ty : TypeId) (x y : Operand) (ho : o.op = .store ty x y)
    (g : Nat) (cells : Array Value) (hx : a.eval x = .pointer (some ⟨g, 0, none⟩)) (hy : a.eval y = .agg cells)
    (t : TypeId) (old : Array Value) (hg : Blk w g old t) (hi : (P.info? ty).map (·.size) = some cells.size)
    (hold : old.size = cells.size) (h1 : cells.all (·.oneCell') = true) (hB : Below B W0 w) (hBg : B ≤ g)
    (h : ∀ w2, Blk w2 g cells t → Below B W0 w2 → wpList P ops Q rest (a.put o.dst undef) w2) : wpList P ops Q (o :: rest) a w :=
  wpList_store_row hgd ty x y ho g cells hx hy t old hg hi hold h1 (h _ (hg.row cells) (below_setRow hB hBg cells))

/-- The bytes of a node's inode, its place left out. -/
def headI (x : Nd) : List Int := bytesIno x.k.toNat x.l.toNat x.m.toNat x.u.toNat x.g.toNat x.p.toNat x.e.toNat x.t.toNat x.c.toNat (x.d.length : Int) [0, 0, 0, 0, 0, 0, 0, 0, 0, 0, 0, 0] 0 0
theorem headI_len (x : Nd) : (headI x).length = 128 := bytesIno_len _ _ _ _ _ _ _ _ _ _ _ _ _ rfl
set_option maxRecDepth 10000 in
theorem headI_zero : headI nd0 = List.replicate 128 0 := by decide
/-- What the fingerprint is the sum of. -/
def prI (L : List Nd) : List Int := (L.map fun x => headI x ++ x.d).flatten
theorem prI_take (L : List Nd) (k : Nat) (h : k < L.length) : prI (L.take (k + 1)) = prI (L.take k) ++ headI (ndAt L k) ++ (ndAt L k).d := by
  unfold prI ndAt
  rw [List.take_succ_eq_append_getElem h, List.map_append, List.flatten_append, List.append_assoc]
  simp [List.getD, h]
theorem prI_len : ∀ L : List Nd, (prI L).length = 128 * L.length + totN L
  | [] => by simp [prI, totN]
  | x :: L => by
    have e : prI (x :: L) = (headI x ++ x.d) ++ prI L := rfl
    have e2 : totN (x :: L) = x.d.length + totN L := rfl
    rw [e, List.length_append, List.length_append, headI_len, prI_len L, e2, List.length_cons]
    omega
theorem prI_cut (L : List Nd) (k : Nat) : (prI (L.take k)).length ≤ 128 * L.length + totN L := by
  rw [prI_len, List.length_take]
  have := totN_le L k
  omega
theorem le_bdP : ∀ (m n : Nat), ∀ z ∈ le m n, 0 ≤ z ∧ z < 256
  | 0, _, z, h => by cases h
  | m + 1, n, z, h => by
    rw [le, List.mem_cons] at h
    rcases h with rfl | h
    · omega
    · exact le_bdP m _ z h
theorem rep_bdP (n : Nat) : ∀ z ∈ List.replicate n (0 : Int), 0 ≤ z ∧ z < 256 := fun z h => by rw [(List.mem_replicate.1 h).2]; omega
theorem bytesR_bdP (s : Int) (ds : List Int) (p q : Int) : ∀ z ∈ bytesR s ds p q, 0 ≤ z ∧ z < 256 := by
  intro z h
  unfold bytesR bytesW at h
  rw [List.mem_append] at h
  rcases h with h | h
  · exact le_bdP _ _ z h
  · obtain ⟨v, _, hv⟩ := List.mem_flatMap.1 h
    exact le_bdP _ _ z hv
theorem headI_bd (x : Nd) : ∀ z ∈ headI x, 0 ≤ z ∧ z < 256 := by
  intro z h
  unfold headI bytesIno at h
  simp only [List.mem_append] at h
  rcases h with (((((((((((h | h) | h) | h) | h) | h) | h) | h) | h) | h) | h) | h) | h
  all_goals first | exact le_bdP _ _ z h | exact rep_bdP _ z h | exact bytesR_bdP _ _ _ _ z h
theorem prI_bd (L : List Nd) (hbd : ∀ i, i < L.length → ∀ z ∈ (ndAt L i).d, 0 ≤ z ∧ z < 256) : ∀ z ∈ prI L, 0 ≤ z ∧ z < 256 := by
  intro z h
  unfold prI at h
  obtain ⟨l, hl, hz⟩ := List.mem_flatten.1 h
  obtain ⟨x, hx, rfl⟩ := List.mem_map.1 hl
  rcases List.mem_append.1 hz with hz | hz
  · exact headI_bd x z hz
  · obtain ⟨i, hi⟩ := List.getElem?_of_mem hx
    have hil := (List.getElem?_eq_some_iff.1 hi).1
    refine hbd i hil z ?_
    unfold ndAt
    simp only [List.getD, hi, Option.getD_some]
    exact hz
/-- What a node that is laid down keeps to. -/
structure Fld (x : Nd) : Prop where
  k : 0 ≤ x.k ∧ x.k < 256
  l : 0 ≤ x.l ∧ x.l < 65536
  m : 0 ≤ x.m ∧ x.m < 65536
  u : 0 ≤ x.u ∧ x.u < 65536
  g : 0 ≤ x.g ∧ x.g < 65536
  p : 0 ≤ x.p ∧ x.p < 4294967296
  e : 0 ≤ x.e ∧ x.e < 281474976710656
  t : 0 ≤ x.t ∧ x.t < 281474976710656
  c : 0 ≤ x.c ∧ x.c < 281474976710656
  d : x.d.length ≤ 262144
theorem fld_zero : Fld nd0 := ⟨by decide, by decide, by decide, by decide, by decide, by decide, by decide, by decide, by decide, by decide⟩
theorem nd_beyond (L : List Nd) (i : Nat) (h : L.length ≤ i) : ndAt L i = nd0 := by unfold ndAt; simp [List.getD, List.getElem?_eq_none h]
theorem fld_in {C : Int} {L : List Nd} (h : RightS C L) (i : Nat) : Fld (ndAt L i) ∧ ((ndAt L i).k = 0 → ndAt L i = nd0) := by
  rcases Nat.lt_or_ge i L.length with hi | hi
  · have h1 := ((prS_iff C L).2 h).node i hi
    unfold nodeB inB at h1
    simp only [Bool.and_eq_true, Bool.or_eq_true, decide_eq_true_eq] at h1
    rcases h1.1.1 with h2 | ⟨h2, h3⟩
    · rw [(freeN_iff _).1 h2]; exact ⟨fld_zero, fun _ => rfl⟩
    · unfold fieldsB at h2
      simp only [Bool.and_eq_true] at h2
      obtain ⟨⟨⟨⟨⟨⟨⟨⟨a0, a1⟩, a2⟩, a3⟩, a4⟩, a5⟩, a6⟩, a7⟩, a8⟩ := h2
      have b0 := wi_true a0
      have b1 := wi_true a1
      have b2 := wi_true a2
      have b3 := wi_true a3
      have b4 := wi_true a4
      have b6 := wi_true a6
      have b7 := wi_true a7
      have b8 := wi_true a8
      refine ⟨⟨by omega, by omega, by omega, by omega, by omega, ?_, by omega, by omega, by omega, h3⟩, fun h => by omega⟩
      unfold parB at a5
      split at a5
      · have := wi_true a5; omega
      · have : (ndAt L i).p = 0 := by simpa using a5
        omega
  · rw [nd_beyond L i hi]; exact ⟨fld_zero, fun _ => rfl⟩
theorem inoN_nat {x : Nd} (h : Fld x) : inoN x x.d.length = inoI [(x.k.toNat : Int), (x.l.toNat : Int), (x.m.toNat : Int), (x.u.toNat : Int), (x.g.toNat : Int), (x.p.toNat : Int), (x.e.toNat : Int), (x.t.toNat : Int), (x.c.toNat : Int)] (x.d.length : Int) [0, 0, 0, 0, 0, 0, 0, 0, 0, 0, 0, 0] 0 0 := by
  unfold inoN
  rw [Int.toNat_of_nonneg h.k.1, Int.toNat_of_nonneg h.l.1, Int.toNat_of_nonneg h.m.1, Int.toNat_of_nonneg h.u.1, Int.toNat_of_nonneg h.g.1, Int.toNat_of_nonneg h.p.1, Int.toNat_of_nonneg h.e.1, Int.toNat_of_nonneg h.t.1, Int.toNat_of_nonneg h.c.1]
  rfl
theorem layN_any (x : Nd) (h : Fld x) (w : World) :
    Calls Tryz.prog 34 #[.agg (cellsI (inoN x x.d.length))] w fun e w' => ∃ v', e = .returned v' ∧ w'.ownsRow w.heap.size 5 1 v' 128 ((headI x).map (Value.int .u8)) ∧ Below w.heap.size w w' := by
  rw [inoN_nat h]
  have := h.d
  exact layInode_any _ _ _ _ _ _ _ _ _ _ _ _ _ w rfl (by have := h.k; omega) (by have := h.l; omega) (by have := h.m; omega) (by have := h.u; omega) (by have := h.g; omega) (by have := h.p; omega) (by have := h.e; omega) (by have := h.t; omega) (by have := h.c; omega) (by omega) (by decide)
theorem bytN_any (x : Nd) (h : Fld x) (w : World) :
    Calls Tryz.prog 40 #[.agg (cellsI (inoN x x.d.length))] w fun e w' => ∃ v', e = .returned v' ∧ w'.ownsRow w.heap.size 5 1 v' 128 ((headI x).map (Value.int .u8)) ∧ Below w.heap.size w w' := by
  rw [inoN_nat h]
  have := h.d
  exact inodeBytes_any _ _ _ _ _ _ _ _ _ _ _ _ _ _ _ _ _ _ _ _ _ _ _ _ w (by have := h.k; omega) (by have := h.l; omega) (by have := h.m; omega) (by have := h.u; omega) (by have := h.g; omega) (by have := h.p; omega) (by have := h.e; omega) (by have := h.t; omega) (by have := h.c; omega) (by omega) (by decide)
end Go.Proofs.YtnbfpmmpmblmmaaGreatDoor
