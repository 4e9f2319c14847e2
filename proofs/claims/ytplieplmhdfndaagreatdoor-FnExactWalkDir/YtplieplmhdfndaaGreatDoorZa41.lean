/- States measured, copied, compared. StateCheck: the model and the program. The law on StateCheck, walked. A node that came in, opened. A state that came in, opened. -/
import Derived.Test.YtplieplmhdfndaaGreatDoorZa40
import Derived.Test.YtplieplmhdfndaaGreatDoorZa22
import Derived.Test.YtplieplmhdfndaaGreatDoorZa38
import Derived.Test.YtplieplmhdfndaaGreatDoorZa39
import Derived.ProofKit
import Derived.OpenShut
namespace Go.Proofs.YtplieplmhdfndaaGreatDoor
set_option linter.unusedVariables false
set_option linter.unusedSimpArgs false
open Go.RowKit

theorem own_asideN {W : World} {base n sz : Nat} {e : TypeId} {v : Value} {xs : List Value} (h : W.ownsRow base e sz v n xs) (p : Addr) (x : Value) (hp : p.block < base) : (W.setCell p x).ownsRow base e sz v n xs :=
  h.kept (row := some p.block) ⟨rfl, rfl, rfl, by simp, fun q hq hne => Below.heap_setCell W p _ q (fun e => hne (by rw [e]))⟩ (by
    rcases h.2 with ⟨rfl, _⟩ | ⟨g, cap, cur, rfl, hb, _⟩
    · exact .inl rfl
    · right
      intro e
      have e' : g = p.block := Option.some.inj e
      omega)
theorem OwnN.aside {W : World} {base : Nat} {e : TypeId} {m : Nat} {v : Value} {L : List NE} {vs : List Value} (h : OwnN W base e m v L vs) (p : Addr) (x : Value) (hp : p.block < base) : OwnN (W.setCell p x) base e m v L vs :=
  ⟨h.len, h.pre, own_asideN h.row p x hp, fun i u l hu hl => own_asideN (h.dat i u l hu hl) p x hp, h.one⟩
theorem OwnN.shape {W : World} {base : Nat} {e : TypeId} {m : Nat} {v : Value} {L : List NE} {vs : List Value} (h : OwnN W base e m v L vs) : ∃ a cap, v = .slice a L.length cap := by
  obtain ⟨a, cap, e, _⟩ := h.rd.row
  exact ⟨a, cap, e⟩
set_option maxRecDepth 100000 in
theorem szState_any (C : Int) (v : Value) (L : List Nd) (us : List Value) (w : World) (h : RdN w 9 v (L.map ndE) us) :
    Calls Tryz.prog 8 #[.agg #[.int .i64 C, v], .int .i64 1048576] w fun e w' => ∃ r : Int, e = .returned (.int .i64 r) ∧ (0 ≤ r → L.length ≤ 1048576 ∧ totN L ≤ 1048576) ∧ Below w.heap.size w w' := by
  obtain ⟨a, cap, rfl⟩ : ∃ a cap, v = .slice a L.length cap := by obtain ⟨a, cap, e, _⟩ := h.row; exact ⟨a, cap, by simpa using e⟩
  have HR := hide h
  obtain ⟨N, hN⟩ : ∃ N, N = L.length := ⟨_, rfl⟩
  have HN := hide hN
  rw [← hN] at HR ⊢
  clear h hN
  go_enter Tryz.func8, Tryz.ntmps8
  go_wp2_with fail
  refine (szNodeS_any _ L us _ (HR.out.below ?_)).mono ?_
  · exact (Below.refl _ _).alloc (Nat.le_refl _) _
  rintro e w1 ⟨r, rfl, hr, b1⟩
  have B1 := hide (((Below.refl _ _).alloc (Nat.le_refl _) _).trans (b1.mono (by simp)))
  have HRR := hide hr
  clear b1 hr
  by_cases h0 : r < 0
  · go_wp2
    go_ret
    first
    | exact ⟨-1, rfl, fun h => by omega, B1.out⟩
    | exact ⟨_, rfl, fun h => by omega, B1.out⟩
  · go_wp2
    go_ret
    exact ⟨r, rfl, fun h => ⟨by rw [HN.out]; exact (HRR.out h).2.1, (HRR.out h).2.2⟩, B1.out⟩
set_option maxRecDepth 100000 in
set_option maxHeartbeats 1000000 in
theorem toState_any (C : Int) (v : Value) (L : List Nd) (us : List Value) (w : World) (h : RdN w 9 v (L.map ndE) us) (hn : L.length ≤ 1048576) (hb : ∀ i, i < L.length → (ndAt L i).d.length ≤ 1048576) :
    Calls Tryz.prog 10 #[.agg #[.int .i64 C, v]] w fun e w' => ∃ v' vs, e = .returned (.agg #[.int .i64 C, v']) ∧ OwnN w' w.heap.size 56 9 v' (L.map ndE) vs ∧ Below w.heap.size w w' := by
  obtain ⟨a, cap, rfl⟩ : ∃ a cap, v = .slice a L.length cap := by obtain ⟨a, cap, e, _⟩ := h.row; exact ⟨a, cap, by simpa using e⟩
  have HR := hide h
  have HB := hide (And.intro hn hb)
  obtain ⟨N, hN⟩ : ∃ N, N = L.length := ⟨_, rfl⟩
  have HN := hide hN
  rw [← hN] at HR ⊢
  clear h hN hn hb
  go_enter Tryz.func10, Tryz.ntmps10
  go_wp2_with fail
  refine (toNodeS_any _ L us _ (HR.out.below ?_) HB.out.1 HB.out.2).mono ?_
  · exact (((Below.refl _ _).alloc (Nat.le_refl _) _).alloc (by simp) _).alloc (by simp; omega) _
  rintro x w1 ⟨v1, vs1, rfl, o1, b1⟩
  obtain ⟨a1, cap1, rfl⟩ : ∃ a1 cap1, v1 = .slice a1 N cap1 := by obtain ⟨a, cap, e⟩ := o1.shape; exact ⟨a, cap, by rw [HN.out]; simpa using e⟩
  have hz1 := (Blk.new _ _ _).below b1 (by simp)
  simp only [World.size_alloc] at hz1
  have hz0 := ((Blk.new _ _ _).alloc _).below b1 (by simp)
  simp only [World.size_alloc] at hz0
  have hB : Below w.heap.size w w1 := ((((Below.refl _ _).alloc (Nat.le_refl _) _).alloc (by simp) _).alloc (by simp; omega) _).trans (b1.mono (by simp; omega))
  have f0 := hz0.frozen 0
  have d0 := (hz0.cell 0).trans (show _ = some (.int .i64 0) from rfl)
  have f1 := hz0.frozen 1
  have d1 := (hz0.cell 1).trans (show _ = some (.slice none 0 0) from rfl)
  have g1 := hz1.frozen 1
  have c0 := (hz1.cell 0).trans (show _ = some (.int .i64 C) from rfl)
  have c1 := (hz1.cell 1).trans (show _ = some (.slice none 0 0) from rfl)
  have ho := (o1.mono (base' := w.heap.size + 3) (by simp))
  have K := hide (And.intro hB ho)
  have KZ := hide hz0
  clear hz1 hz0 hB ho o1 b1
  go_wp2
  have q0 := KZ.out.other ⟨w.heap.size + 1 + 1, 1, none⟩ (.slice a1 N cap1) (by simp)
  have q1 : Blk _ _ #[.int .i64 C, .slice none 0 0] 29 := q0.set 0 (.int .i64 C)
  have q2 : Blk _ _ #[.int .i64 C, .slice a1 N cap1] 29 := q1.set 1 (.slice a1 N cap1)
  have KQ := hide q2
  clear q0 q1 q2 KZ
  refine bodyPost_ret (v := .agg #[.int .i64 C, .slice a1 N cap1]) ?_ rfl ⟨_, vs1, rfl, OwnN.mono ?_ (by omega : w.heap.size ≤ w.heap.size + 3), ?_⟩
  · exact results_cell_row rfl _ _ (w.heap.size + 1) 29 #[.int .i64 C, .slice a1 N cap1] (0, 0) _ rfl KQ.out Tryz.underlying29 rfl (by kernel_rfl)
  · repeat (refine OwnN.aside ?_ _ _ (by simp <;> omega))
    exact K.out.2
  · repeat (refine Below.setCell ?_ (by simp <;> omega) _)
    exact K.out.1
set_option maxRecDepth 100000 in
theorem eqState_same (C : Int) (v1 v2 : Value) (L : List Nd) (us1 us2 : List Value) (w : World) (h1 : RdN w 9 v1 (L.map ndE) us1) (h2 : RdN w 9 v2 (L.map ndE) us2) :
    Calls Tryz.prog 12 #[.agg #[.int .i64 C, v1], .agg #[.int .i64 C, v2]] w fun e w' => e = .returned (.bool true) ∧ Below w.heap.size w w' := by
  obtain ⟨a1, cap1, rfl⟩ : ∃ a cap, v1 = .slice a L.length cap := by obtain ⟨a, cap, e, _⟩ := h1.row; exact ⟨a, cap, by simpa using e⟩
  obtain ⟨a2, cap2, rfl⟩ : ∃ a cap, v2 = .slice a L.length cap := by obtain ⟨a, cap, e, _⟩ := h2.row; exact ⟨a, cap, by simpa using e⟩
  have HB := hide (And.intro h1 h2)
  have H0 := hide (show ∀ o o2, Below w.heap.size w ((w.alloc o).alloc o2) from fun o o2 => ((Below.refl _ _).alloc (Nat.le_refl _) o).alloc (by simp) o2)
  obtain ⟨N, hN⟩ : ∃ N, N = L.length := ⟨_, rfl⟩
  rw [← hN] at HB ⊢
  clear h1 h2 hN
  have qC : (C != C) = false := by simp
  go_enter Tryz.func12, Tryz.ntmps12
  go_wp2_with fail
  refine (eqNodeS_same _ _ L us1 us2 _ (HB.out.1.below (H0.out _ _)) (HB.out.2.below (H0.out _ _))).mono ?_
  rintro e w4 ⟨rfl, b4⟩
  have H4 := hide ((H0.out _ _).trans (b4.mono (H0.out _ _).size))
  clear b4
  go_wp2
  go_ret
  exact ⟨rfl, H4.out⟩
end Go.Proofs.YtplieplmhdfndaaGreatDoor

namespace Go.Proofs.YtplieplmhdfndaaGreatDoor
set_option linter.unusedVariables false
set_option linter.unusedSimpArgs false
open Go.RowKit

end Go.Proofs.YtplieplmhdfndaaGreatDoor

namespace Go.Proofs.YtplieplmhdfndaaGreatDoor
set_option linter.unusedVariables false
set_option linter.unusedSimpArgs false
open Go.RowKit

theorem infoStL : (Tryz.prog.info? 24).map (·.size) = some 2 := by kernel_rfl
theorem oneSt (C : Int) (a : Option Addr) (n c : Nat) : (#[.int .i64 C, Value.slice a n c] : Array Value).all (·.oneCell') = true := by kernel_rfl
theorem below_setRowS {B g : Nat} {w0 w : World} (h : Below B w0 w) (hg : B ≤ g) (cs : Array Value) : Below B w0 (w.setRow g cs) :=
  h.trans ⟨rfl, rfl, rfl, by simp [World.setRow], fun k hk => setRow_block w g cs k (by omega)⟩
theorem nd_tot (L : List Nd) (i : Nat) (hi : i < L.length) : (ndAt L i).d.length ≤ totN L := by
  have h1 := totN_succ L i hi
  have h2 := totN_le L (i + 1)
  omega
theorem OwnN.nilV {W : World} {base : Nat} {e : TypeId} {m : Nat} {v : Value} {L : List NE} {vs : List Value} (h : OwnN W base e m v L vs) : NilV vs := by
  intro i a n c hu ha
  have hi : i < vs.length := (List.getElem?_eq_some_iff.1 hu).1
  rcases (h.dat i _ _ hu (List.getElem?_eq_getElem (by rw [← h.len]; exact hi))).2 with ⟨e, _⟩ | ⟨g, cap, cur, e, _⟩
  · injection e
  · subst ha
    injection e with e
    cases e
theorem st_full {w : World} {b : Nat} {C : Int} {v : Value} {t : TypeId} (h : Blk w b #[.int .i64 C, v] t) : w.rangeAt b 0 [.int .i64 C, v] := by
  intro j u hu
  rw [Nat.zero_add, h.cell j]
  simpa using hu
end Go.Proofs.YtplieplmhdfndaaGreatDoor

namespace Go.Proofs.YtplieplmhdfndaaGreatDoor
set_option linter.unusedVariables false
set_option linter.unusedSimpArgs false
open Go.ChangeShapes Go.WideShapes Go.ChangeAt Go.RowKit

theorem cells1n : Tryz.prog.cellsOf 3 = 1 := by kernel_rfl
theorem cells1b : Tryz.prog.cellsOf 45 = 1 := by kernel_rfl
theorem cellsLN : Tryz.prog.cellsOf 118 = 10 := by kernel_rfl
theorem take_oneN {l : List Value} {o : Nat} {c : Value} (h : (l.drop o).take 1 = [c]) : l[o]? = some c := by
  have h2 : ((l.drop o).take 1)[0]? = some c := by rw [h]; rfl
  simpa using h2
theorem open_bytes {H : Type} {enc : TypeId × Value → H} {W : World} {base : Nat} {held : Bool} {fuel : Nat} {cs : List Value} {x : DataW H × List MemPlace} (hf : DataW.trod enc Tryz.prog W base (fun _ => true) held fuel 45 cs = some x) :
    ∃ v zs, cs = [v] ∧ Rd .u8 W v zs ∧ ∀ z ∈ zs, 0 ≤ z ∧ z < 256 := by
  rcases open_ints Tryz.underlying45 Tryz.underlying5 (by kernel_rfl) hf with ⟨hcs, _⟩ | ⟨x, l, c, zs, hcs, _, hl, hm, hz, _, hcell, hwz⟩
  · have w0 : IsRow .u8 W none 0 0 [] := .inl ⟨rfl, rfl, rfl, rfl⟩
    obtain ⟨hrd, hlen, hwf⟩ := Rd.of_row w0
    exact ⟨_, _, hcs, hrd, bytes_bd hwf⟩
  · have w0 : IsRow .u8 W (some x) l c zs := .inr ⟨_, rfl, hl, hm, by simpa using hz, hcell, hwz⟩
    obtain ⟨hrd, hlen, hwf⟩ := Rd.of_row w0
    exact ⟨_, _, hcs, hrd, bytes_bd hwf⟩
set_option maxRecDepth 100000 in
theorem open_node_cells {H : Type} {enc : TypeId × Value → H} {W : World} {base : Nat} {held : Bool} {fuel : Nat} {cs : List Value} {x : DataW H × List MemPlace} (hsz : cs.length = 10) (hf : DataW.trod enc Tryz.prog W base (fun _ => true) held fuel 118 cs = some x) :
    ∃ k l m u g p e t c v zs, cs = [.int .i64 k, .int .i64 l, .int .i64 m, .int .i64 u, .int .i64 g, .int .i64 p, .int .i64 e, .int .i64 t, .int .i64 c, v] ∧ Rd .u8 W v zs ∧ ∀ z ∈ zs, 0 ≤ z ∧ z < 256 := by
  obtain ⟨xs, n, _, _, _, hl, hfld⟩ := DataW.trod_struct Tryz.underlying118 hf
  have hl10 : xs.length = 10 := hl
  have h0 := hfld 0 _ rfl
  rw [List.getElem?_eq_getElem (show 0 < xs.length by omega)] at h0
  obtain ⟨x0, e0, _⟩ := DataW.trod_int Tryz.underlying3 h0
  change (cs.drop 0).take (Tryz.prog.cellsOf 3) = _ at e0
  have h1 := hfld 1 _ rfl
  rw [List.getElem?_eq_getElem (show 1 < xs.length by omega)] at h1
  obtain ⟨x1, e1, _⟩ := DataW.trod_int Tryz.underlying3 h1
  change (cs.drop 1).take (Tryz.prog.cellsOf 3) = _ at e1
  have h2 := hfld 2 _ rfl
  rw [List.getElem?_eq_getElem (show 2 < xs.length by omega)] at h2
  obtain ⟨x2, e2, _⟩ := DataW.trod_int Tryz.underlying3 h2
  change (cs.drop 2).take (Tryz.prog.cellsOf 3) = _ at e2
  have h3 := hfld 3 _ rfl
  rw [List.getElem?_eq_getElem (show 3 < xs.length by omega)] at h3
  obtain ⟨x3, e3, _⟩ := DataW.trod_int Tryz.underlying3 h3
  change (cs.drop 3).take (Tryz.prog.cellsOf 3) = _ at e3
  have h4 := hfld 4 _ rfl
  rw [List.getElem?_eq_getElem (show 4 < xs.length by omega)] at h4
  obtain ⟨x4, e4, _⟩ := DataW.trod_int Tryz.underlying3 h4
  change (cs.drop 4).take (Tryz.prog.cellsOf 3) = _ at e4
  have h5 := hfld 5 _ rfl
  rw [List.getElem?_eq_getElem (show 5 < xs.length by omega)] at h5
  obtain ⟨x5, e5, _⟩ := DataW.trod_int Tryz.underlying3 h5
  change (cs.drop 5).take (Tryz.prog.cellsOf 3) = _ at e5
  have h6 := hfld 6 _ rfl
  rw [List.getElem?_eq_getElem (show 6 < xs.length by omega)] at h6
  obtain ⟨x6, e6, _⟩ := DataW.trod_int Tryz.underlying3 h6
  change (cs.drop 6).take (Tryz.prog.cellsOf 3) = _ at e6
  have h7 := hfld 7 _ rfl
  rw [List.getElem?_eq_getElem (show 7 < xs.length by omega)] at h7
  obtain ⟨x7, e7, _⟩ := DataW.trod_int Tryz.underlying3 h7
  change (cs.drop 7).take (Tryz.prog.cellsOf 3) = _ at e7
  have h8 := hfld 8 _ rfl
  rw [List.getElem?_eq_getElem (show 8 < xs.length by omega)] at h8
  obtain ⟨x8, e8, _⟩ := DataW.trod_int Tryz.underlying3 h8
  change (cs.drop 8).take (Tryz.prog.cellsOf 3) = _ at e8
  have h9 := hfld 9 _ rfl
  rw [List.getElem?_eq_getElem (show 9 < xs.length by omega)] at h9
  obtain ⟨v, zs, e9, hrd, hbd⟩ := open_bytes h9
  change (cs.drop 9).take (Tryz.prog.cellsOf 45) = _ at e9
  rw [cells1b] at e9
  rw [cells1n] at e0 e1 e2 e3 e4 e5 e6 e7 e8
  have f0 := take_oneN e0
  have f1 := take_oneN e1
  have f2 := take_oneN e2
  have f3 := take_oneN e3
  have f4 := take_oneN e4
  have f5 := take_oneN e5
  have f6 := take_oneN e6
  have f7 := take_oneN e7
  have f8 := take_oneN e8
  have f9 := take_oneN e9
  refine ⟨x0, x1, x2, x3, x4, x5, x6, x7, x8, v, zs, ?_, hrd, hbd⟩
  apply List.ext_getElem?
  intro i
  rcases Nat.lt_or_ge i 10 with h | h
  · match i, h with
    | 0, _ => exact f0
    | 1, _ => exact f1
    | 2, _ => exact f2
    | 3, _ => exact f3
    | 4, _ => exact f4
    | 5, _ => exact f5
    | 6, _ => exact f6
    | 7, _ => exact f7
    | 8, _ => exact f8
    | 9, _ => exact f9
  · rw [List.getElem?_eq_none (by omega), List.getElem?_eq_none (by simp; omega)]
end Go.Proofs.YtplieplmhdfndaaGreatDoor

namespace Go.Proofs.YtplieplmhdfndaaGreatDoor
set_option linter.unusedVariables false
set_option linter.unusedSimpArgs false
open Go.ChangeShapes Go.WideShapes Go.ChangeAt Go.RowKit

theorem cellsLNS : Tryz.prog.cellsOf 22 = 1 := by kernel_rfl
theorem cellsLS : Tryz.prog.cellsOf 24 = 2 := by kernel_rfl
/-- Each node is known: so is the list. -/
theorem gatherN (n : Nat) (f : Nat → Nd → Value → Prop) (h : ∀ k, k < n → ∃ x u, f k x u) : ∃ (L : List Nd) (us : List Value), L.length = n ∧ us.length = n ∧ ∀ k, k < n → ∃ x u, L[k]? = some x ∧ us[k]? = some u ∧ f k x u := by
  induction n with
  | zero => exact ⟨[], [], rfl, rfl, fun k hk => by omega⟩
  | succ n ih =>
    obtain ⟨Q, us, h1, h2, h3⟩ := ih (fun k hk => h k (by omega))
    obtain ⟨b, u, hb⟩ := h n (by omega)
    refine ⟨Q ++ [b], us ++ [u], by simp [h1], by simp [h2], fun k hk => ?_⟩
    by_cases hkn : k < n
    · obtain ⟨b', u', e1, e2, e3⟩ := h3 k hkn
      exact ⟨b', u', by rw [List.getElem?_append_left (by omega)]; exact e1, by rw [List.getElem?_append_left (by omega)]; exact e2, e3⟩
    · obtain rfl : k = n := by omega
      exact ⟨b, u, by rw [← h1, List.getElem?_append_right (Nat.le_refl _)]; simp, by rw [← h2, List.getElem?_append_right (Nat.le_refl _)]; simp, hb⟩
set_option maxRecDepth 100000 in
theorem open_nodes {H : Type} {enc : TypeId × Value → H} {W : World} {base : Nat} {held : Bool} {fuel : Nat} {cs : List Value} {x : DataW H × List MemPlace} (hf : DataW.trod enc Tryz.prog W base (fun _ => true) held fuel 22 cs = some x) :
    ∃ (v : Value) (L : List Nd) (us : List Value), cs = [v] ∧ RdN W 9 v (L.map ndE) us ∧ ∀ i, i < L.length → ∀ z ∈ (ndAt L i).d, 0 ≤ z ∧ z < 256 := by
  rcases DataW.trod_slice Tryz.underlying22 hf with ⟨hcs, _⟩ | ⟨x, len, cap, elems, rest, n, _, hcs, _, hb, hl, hm, hlen, hel, _, _⟩
  · exact ⟨_, [], [], hcs, ⟨rfl, fun l h => (by cases h), ⟨none, 0, rfl, fun h => absurd h (by simp), by simp, by simp⟩, fun i u l h => (by simp at h)⟩, fun i hi => (by simp at hi)⟩
  · rw [cellsLN] at hel
    obtain ⟨L, us, h1, h2, h3⟩ := gatherN len (fun k y u => (∀ (j : Nat) (c : Value), ((ndE y).1 ++ [u])[j]? = some c → W.cell? ((x.add (k * 10)).add j) = some c) ∧ Rd .u8 W u y.d ∧ ∀ z ∈ y.d, 0 ≤ z ∧ z < 256) (fun k hk => by
      have h1 := hel k hk
      rw [List.getElem?_eq_getElem (by omega), Option.bind_eq_some_iff] at h1
      obtain ⟨cs, hcs, hy⟩ := h1
      obtain ⟨_, hcl, hcc⟩ := World.cells?_some hcs
      obtain ⟨q0, q1, q2, q3, q4, q5, q6, q7, q8, u, zs, rfl, hr, hz⟩ := open_node_cells hcl hy
      refine ⟨⟨q0, q1, q2, q3, q4, q5, q6, q7, q8, zs⟩, u, fun j c hc => ?_, hr, hz⟩
      have hj : j < 10 := (List.getElem?_eq_some_iff.1 hc).1
      rw [hcc j (by omega)]
      exact hc)
    refine ⟨_, L, us, hcs, ⟨by simp [h1, h2], ndE_pre _, ⟨some x, cap, by simp [h1], fun hn => ?_, by simp [h1]; exact hl, hm⟩, fun i u l hu hl => ?_⟩, fun i hi z hz => ?_⟩
    · simp [h1] at hn
      obtain ⟨y0, u0, _, _, hc0, _⟩ := h3 0 hn
      have hc0 := hc0 0 (.int .i64 y0.k) rfl
      obtain ⟨b, off, spot⟩ := x
      have hspot : spot = none := by simpa [Addr.add] using World.cell?_spot hc0
      subst hspot
      refine ⟨b, off, rfl, by rw [Addr.add_mid, Addr.add_mid] at hc0; simpa using cell_lt hc0, fun j u hu => ?_⟩
      have hjl : j < len * 10 := by
        have := (List.getElem?_eq_some_iff.1 hu).1
        rw [cellsN_len 9 _ _ (by simp [h1, h2]) (ndE_pre _)] at this
        simp [h1] at this
        exact this
      obtain ⟨yk, uk, e1, e2, ck, _⟩ := h3 (j / 10) (by omega)
      have hg := cellsN_get 9 us (L.map ndE) (by simp [h1, h2]) (ndE_pre _) (j / 10) (j % 10) uk (ndE yk) e2 (by rw [List.getElem?_map, e1]; rfl) (by omega)
      rw [show j / 10 * (9 + 1) + j % 10 = j by omega] at hg
      rw [hg] at hu
      have c0 := ck (j % 10) u hu
      rw [Addr.add_mid, Addr.add_mid] at c0
      rw [show off + j = off + j / 10 * 10 + j % 10 by omega]
      exact c0
    · have hi : i < len := by rw [← h2]; exact (List.getElem?_eq_some_iff.1 hu).1
      obtain ⟨yk, uk, e1, e2, _, hr, _⟩ := h3 i hi
      rw [e2] at hu
      cases hu
      rw [List.getElem?_map, e1] at hl
      cases hl
      exact hr
    · obtain ⟨yk, uk, e1, e2, _, _, hz'⟩ := h3 i (by omega)
      have e : ndAt L i = yk := by unfold ndAt; simp [List.getD, e1]
      rw [e] at hz
      exact hz' z hz
set_option maxRecDepth 100000 in
/-- A state that came in. -/
theorem open_state {H : Type} {enc : TypeId × Value → H} {W : World} {r : Reach} {b0 base : Nat} {held : Bool} {v : Value} {d : DataW H} {pl : List MemPlace} (hv : Value.okWide Tryz.prog W r b0 24 v) (h : DataW.Trod enc Tryz.prog W base (fun _ => true) held 24 v d pl) :
    ∃ (C : Int) (u : Value) (L : List Nd) (us : List Value), v = .agg #[.int .i64 C, u] ∧ RdN W 9 u (L.map ndE) us ∧ ∀ i, i < L.length → ∀ z ∈ (ndAt L i).d, 0 ≤ z ∧ z < 256 := by
  obtain ⟨cs, rfl, hsz⟩ := Go.WideShapes.okWide_struct Tryz.underlying24 hv
  rw [cellsLS] at hsz
  obtain ⟨fuel, hf⟩ := h
  obtain ⟨xs, n, _, _, _, hl, hfld⟩ := DataW.trod_struct Tryz.underlying24 hf
  have hc : (Value.agg cs).cells.toList = cs.toList := rfl
  rw [hc] at hfld
  have hl2 : xs.length = 2 := hl
  have h0 := hfld 0 _ rfl
  rw [List.getElem?_eq_getElem (show 0 < xs.length by omega)] at h0
  have h1 := hfld 1 _ rfl
  rw [List.getElem?_eq_getElem (show 1 < xs.length by omega)] at h1
  obtain ⟨C, e0, _⟩ := DataW.trod_int Tryz.underlying3 h0
  change (cs.toList.drop 0).take (Tryz.prog.cellsOf 3) = _ at e0
  rw [cells1n] at e0
  obtain ⟨u, L, us, e1, hr, hz⟩ := open_nodes h1
  change (cs.toList.drop 1).take (Tryz.prog.cellsOf 22) = _ at e1
  rw [cellsLNS] at e1
  refine ⟨C, u, L, us, ?_, hr, hz⟩
  congr 1
  apply Array.ext'
  have hlen : cs.toList.length = 2 := by rw [Array.length_toList, hsz]
  have e2 : cs.toList = (cs.toList.drop 0).take 1 ++ (cs.toList.drop 1).take 1 := by
    rw [List.drop_zero, List.take_of_length_le (l := cs.toList.drop 1) (by rw [List.length_drop, hlen]; omega), List.take_append_drop]
  rw [e2, e0, e1]
  rfl
end Go.Proofs.YtplieplmhdfndaaGreatDoor
