/- An answer that came in, opened. -/
import Derived.Test.YtnljpaohkkdjjaaDoorTaJ
import Derived.ProofKit
import Derived.OpenShut
namespace Go.Proofs.YtnljpaohkkdjjaaDoor
set_option linter.unusedVariables false
set_option linter.unusedSimpArgs false
open Go.ChangeShapes Go.WideShapes Go.ChangeAt Go.RowKit

theorem cells1nT : Tryd.prog.cellsOf 3 = 1 := by kernel_rfl
theorem cells1bT : Tryd.prog.cellsOf 22 = 1 := by kernel_rfl
theorem cells1sT : Tryd.prog.cellsOf 9 = 1 := by kernel_rfl
theorem cells1dT : Tryd.prog.cellsOf 25 = 1 := by kernel_rfl
theorem cells3dT : Tryd.prog.cellsOf 59 = 3 := by kernel_rfl
theorem cells10sT : Tryd.prog.cellsOf 24 = 10 := by kernel_rfl
theorem cells10uT : Tryd.prog.cellsOf 27 = 10 := by kernel_rfl
theorem cells24T : Tryd.prog.cellsOf 29 = 24 := by kernel_rfl
theorem take_oneT {l : List Value} {o : Nat} {c : Value} (h : (l.drop o).take 1 = [c]) : l[o]? = some c := by
  have h2 : ((l.drop o).take 1)[0]? = some c := by rw [h]; rfl
  simpa using h2
theorem in64_of {z : Int} (h : (Lit.int .i64 z).wf = true) : In64 z := by
  simp [Lit.wf, IntKind.min, IntKind.max, IntKind.bits, IntKind.signed] at h
  unfold In64
  omega
theorem u8_back {zs : List Int} (h : ∀ z ∈ zs, 0 ≤ z ∧ z < 256) : zs = txI (zs.map fun z => UInt8.ofNat z.toNat) := by
  unfold txI
  rw [List.map_map]
  refine (List.map_id zs).symm.trans (List.map_congr_left fun z hz => ?_)
  have h1 := h z hz
  simp
  omega
theorem open_bytesT {H : Type} {enc : TypeId × Value → H} {W : World} {base : Nat} {held : Bool} {fuel : Nat} {cs : List Value} {x : DataW H × List MemPlace} (hf : DataW.trod enc Tryd.prog W base (fun _ => true) held fuel 22 cs = some x) :
    ∃ v zs, cs = [v] ∧ Rd .u8 W v (txI zs) := by
  rcases open_ints Tryd.underlying22 Tryd.underlying5 (by kernel_rfl) hf with ⟨hcs, _⟩ | ⟨x, l, c, zs, hcs, _, hl, hm, hz, _, hcell, hwz⟩
  · exact ⟨_, [], hcs, ⟨none, 0, rfl, by simp [txI], fun h => absurd rfl h, by simp [txI], by simp⟩⟩
  · have w0 : IsRow .u8 W (some x) l c zs := .inr ⟨_, rfl, hl, hm, by simpa using hz, hcell, hwz⟩
    obtain ⟨hrd, hlen, hwf⟩ := Rd.of_row w0
    rw [u8_back (bytes_bd hwf)] at hrd
    exact ⟨_, _, hcs, hrd⟩
set_option maxRecDepth 100000 in
theorem open_entT {H : Type} {enc : TypeId × Value → H} {W : World} {base : Nat} {held : Bool} {fuel : Nat} {cs : List Value} {x : DataW H × List MemPlace} (hsz : cs.length = 3) (hf : DataW.trod enc Tryd.prog W base (fun _ => true) held fuel 59 cs = some x) :
    ∃ e : EK, cs = [.string e.1, .int .i64 e.2.1, .int .i64 e.2.2] ∧ e.1.size ≤ maxLen ∧ In64 e.2.1 ∧ In64 e.2.2 := by
  obtain ⟨xs, n, _, _, _, hl, hfld⟩ := DataW.trod_struct Tryd.underlying59 hf
  have hl3 : xs.length = 3 := hl
  have h0 := hfld 0 _ rfl
  rw [List.getElem?_eq_getElem (show 0 < xs.length by omega)] at h0
  obtain ⟨x0, e0, _, hs⟩ := DataW.trod_string Tryd.underlying9 h0
  change (cs.drop 0).take (Tryd.prog.cellsOf 9) = _ at e0
  have h1 := hfld 1 _ rfl
  rw [List.getElem?_eq_getElem (show 1 < xs.length by omega)] at h1
  obtain ⟨x1, e1, _, w1⟩ := DataW.trod_int Tryd.underlying3 h1
  change (cs.drop 1).take (Tryd.prog.cellsOf 3) = _ at e1
  have h2 := hfld 2 _ rfl
  rw [List.getElem?_eq_getElem (show 2 < xs.length by omega)] at h2
  obtain ⟨x2, e2, _, w2⟩ := DataW.trod_int Tryd.underlying3 h2
  change (cs.drop 2).take (Tryd.prog.cellsOf 3) = _ at e2
  rw [cells1sT] at e0
  rw [cells1nT] at e1 e2
  have f0 := take_oneT e0
  have f1 := take_oneT e1
  have f2 := take_oneT e2
  refine ⟨(x0, x1, x2), ?_, hs, in64_of w1, in64_of w2⟩
  apply List.ext_getElem?
  intro i
  rcases Nat.lt_or_ge i 3 with h | h
  · match i, h with
    | 0, _ => exact f0
    | 1, _ => exact f1
    | 2, _ => exact f2
  · rw [List.getElem?_eq_none (by omega), List.getElem?_eq_none (by simp; omega)]
theorem gatherT {α : Type} (n : Nat) (f : Nat → α → Prop) (h : ∀ k, k < n → ∃ a, f k a) : ∃ Q : List α, Q.length = n ∧ ∀ k, k < n → ∃ a, Q[k]? = some a ∧ f k a := by
  induction n with
  | zero => exact ⟨[], rfl, fun k hk => by omega⟩
  | succ n ih =>
    obtain ⟨Q, h1, h3⟩ := ih (fun k hk => h k (by omega))
    obtain ⟨a, ha⟩ := h n (by omega)
    refine ⟨Q ++ [a], by simp [h1], fun k hk => ?_⟩
    by_cases hkn : k < n
    · obtain ⟨b, e1, e3⟩ := h3 k hkn
      exact ⟨b, by rw [List.getElem?_append_left (by omega)]; exact e1, e3⟩
    · obtain rfl : k = n := by omega
      exact ⟨a, by rw [← h1, List.getElem?_append_right (Nat.le_refl _)]; simp, ha⟩
set_option maxRecDepth 100000 in
theorem open_entsT {H : Type} {enc : TypeId × Value → H} {W : World} {base : Nat} {held : Bool} {fuel : Nat} {cs : List Value} {x : DataW H × List MemPlace} (hf : DataW.trod enc Tryd.prog W base (fun _ => true) held fuel 25 cs = some x) :
    ∃ (v : Value) (L : List EK), cs = [v] ∧ RdE W v L ∧ L.length ≤ maxLen ∧ (∀ e ∈ L, e.1.size ≤ maxLen) ∧ ∀ e ∈ L, In64 e.2.1 ∧ In64 e.2.2 := by
  rcases DataW.trod_slice Tryd.underlying25 hf with ⟨hcs, _⟩ | ⟨x, len, cap, elems, rest, n, _, hcs, _, hb, hl, hm, hlen, hel, _, _⟩
  · exact ⟨_, [], hcs, ⟨none, 0, rfl, fun h => absurd h (by simp)⟩, by simp, fun e h => (by cases h), fun e h => (by cases h)⟩
  · rw [cells3dT] at hel
    obtain ⟨Q, h1, h3⟩ := gatherT (α := EK) len (fun k e => W.cell? ((x.add (k * 3)).add 0) = some (.string e.1) ∧ W.cell? ((x.add (k * 3)).add 1) = some (.int .i64 e.2.1) ∧ W.cell? ((x.add (k * 3)).add 2) = some (.int .i64 e.2.2) ∧ e.1.size ≤ maxLen ∧ In64 e.2.1 ∧ In64 e.2.2) (fun k hk => by
      have h1 := hel k hk
      rw [List.getElem?_eq_getElem (by omega), Option.bind_eq_some_iff] at h1
      obtain ⟨cs, hcs, hy⟩ := h1
      obtain ⟨_, hcl, hcc⟩ := World.cells?_some hcs
      obtain ⟨e, rfl, g1, g2, g3⟩ := open_entT hcl hy
      exact ⟨e, by rw [hcc 0 (by omega)]; rfl, by rw [hcc 1 (by omega)]; rfl, by rw [hcc 2 (by omega)]; rfl, g1, g2, g3⟩)
    have hmem : ∀ e ∈ Q, ∃ k, k < len ∧ Q[k]? = some e := fun e he => by
      obtain ⟨k, hk, rfl⟩ := List.getElem_of_mem he
      exact ⟨k, by omega, List.getElem?_eq_getElem hk⟩
    refine ⟨_, Q, hcs, ⟨some x, cap, by rw [h1], fun hn => ?_⟩, by omega, fun e he => ?_, fun e he => ?_⟩
    · obtain ⟨e0, _, hc0, _⟩ := h3 0 (by omega)
      obtain ⟨b, off, spot⟩ := x
      have hspot : spot = none := by simpa [Addr.add] using World.cell?_spot hc0
      subst hspot
      refine ⟨b, off, rfl, by rw [Addr.add_mid, Addr.add_mid] at hc0; simpa using cell_lt hc0, fun k e he => ?_⟩
      have hk : k < len := by rw [← h1]; exact (List.getElem?_eq_some_iff.1 he).1
      obtain ⟨e', he', c0, c1, c2, _⟩ := h3 k hk
      rw [he] at he'
      obtain rfl := Option.some.inj he'
      rw [Addr.add_mid, Addr.add_mid] at c0 c1 c2
      exact ⟨c0, c1, c2⟩
    · obtain ⟨k, hk, hke⟩ := hmem e he
      obtain ⟨e', he', _, _, _, g1, _⟩ := h3 k hk
      rw [hke] at he'
      obtain rfl := Option.some.inj he'
      exact g1
    · obtain ⟨k, hk, hke⟩ := hmem e he
      obtain ⟨e', he', _, _, _, _, g2⟩ := h3 k hk
      rw [hke] at he'
      obtain rfl := Option.some.inj he'
      exact g2
set_option maxRecDepth 100000 in
theorem open_statT {H : Type} {enc : TypeId × Value → H} {W : World} {base : Nat} {held : Bool} {fuel : Nat} {cs : List Value} {x : DataW H × List MemPlace} (hsz : cs.length = 10) (hf : DataW.trod enc Tryd.prog W base (fun _ => true) held fuel 24 cs = some x) :
    ∃ s0 s1 s2 s3 s4 s5 s6 s7 s8 s9 : Int, cs = [.int .i64 s0, .int .i64 s1, .int .i64 s2, .int .i64 s3, .int .i64 s4, .int .i64 s5, .int .i64 s6, .int .i64 s7, .int .i64 s8, .int .i64 s9] ∧ ∀ z ∈ [s0, s1, s2, s3, s4, s5, s6, s7, s8, s9], In64 z := by
  obtain ⟨xs, n, _, _, _, hl, hfld⟩ := DataW.trod_struct Tryd.underlying24 hf
  have hl10 : xs.length = 10 := hl
  have h0 := hfld 0 _ rfl
  rw [List.getElem?_eq_getElem (show 0 < xs.length by omega)] at h0
  obtain ⟨x0, e0, _, w0⟩ := DataW.trod_int Tryd.underlying3 h0
  change (cs.drop 0).take (Tryd.prog.cellsOf 3) = _ at e0
  rw [cells1nT] at e0
  have f0 := take_oneT e0
  have h1 := hfld 1 _ rfl
  rw [List.getElem?_eq_getElem (show 1 < xs.length by omega)] at h1
  obtain ⟨x1, e1, _, w1⟩ := DataW.trod_int Tryd.underlying3 h1
  change (cs.drop 1).take (Tryd.prog.cellsOf 3) = _ at e1
  rw [cells1nT] at e1
  have f1 := take_oneT e1
  have h2 := hfld 2 _ rfl
  rw [List.getElem?_eq_getElem (show 2 < xs.length by omega)] at h2
  obtain ⟨x2, e2, _, w2⟩ := DataW.trod_int Tryd.underlying3 h2
  change (cs.drop 2).take (Tryd.prog.cellsOf 3) = _ at e2
  rw [cells1nT] at e2
  have f2 := take_oneT e2
  have h3 := hfld 3 _ rfl
  rw [List.getElem?_eq_getElem (show 3 < xs.length by omega)] at h3
  obtain ⟨x3, e3, _, w3⟩ := DataW.trod_int Tryd.underlying3 h3
  change (cs.drop 3).take (Tryd.prog.cellsOf 3) = _ at e3
  rw [cells1nT] at e3
  have f3 := take_oneT e3
  have h4 := hfld 4 _ rfl
  rw [List.getElem?_eq_getElem (show 4 < xs.length by omega)] at h4
  obtain ⟨x4, e4, _, w4⟩ := DataW.trod_int Tryd.underlying3 h4
  change (cs.drop 4).take (Tryd.prog.cellsOf 3) = _ at e4
  rw [cells1nT] at e4
  have f4 := take_oneT e4
  have h5 := hfld 5 _ rfl
  rw [List.getElem?_eq_getElem (show 5 < xs.length by omega)] at h5
  obtain ⟨x5, e5, _, w5⟩ := DataW.trod_int Tryd.underlying3 h5
  change (cs.drop 5).take (Tryd.prog.cellsOf 3) = _ at e5
  rw [cells1nT] at e5
  have f5 := take_oneT e5
  have h6 := hfld 6 _ rfl
  rw [List.getElem?_eq_getElem (show 6 < xs.length by omega)] at h6
  obtain ⟨x6, e6, _, w6⟩ := DataW.trod_int Tryd.underlying3 h6
  change (cs.drop 6).take (Tryd.prog.cellsOf 3) = _ at e6
  rw [cells1nT] at e6
  have f6 := take_oneT e6
  have h7 := hfld 7 _ rfl
  rw [List.getElem?_eq_getElem (show 7 < xs.length by omega)] at h7
  obtain ⟨x7, e7, _, w7⟩ := DataW.trod_int Tryd.underlying3 h7
  change (cs.drop 7).take (Tryd.prog.cellsOf 3) = _ at e7
  rw [cells1nT] at e7
  have f7 := take_oneT e7
  have h8 := hfld 8 _ rfl
  rw [List.getElem?_eq_getElem (show 8 < xs.length by omega)] at h8
  obtain ⟨x8, e8, _, w8⟩ := DataW.trod_int Tryd.underlying3 h8
  change (cs.drop 8).take (Tryd.prog.cellsOf 3) = _ at e8
  rw [cells1nT] at e8
  have f8 := take_oneT e8
  have h9 := hfld 9 _ rfl
  rw [List.getElem?_eq_getElem (show 9 < xs.length by omega)] at h9
  obtain ⟨x9, e9, _, w9⟩ := DataW.trod_int Tryd.underlying3 h9
  change (cs.drop 9).take (Tryd.prog.cellsOf 3) = _ at e9
  rw [cells1nT] at e9
  have f9 := take_oneT e9
  refine ⟨x0, x1, x2, x3, x4, x5, x6, x7, x8, x9, ?_, ?_⟩
  · apply List.ext_getElem?
    intro i
    rcases Nat.lt_or_ge i 10 with h | h
    · match i, h with
      | 0, _ => exact f0
      | 1, _ => exact f1
      | 2, _ => exact f2
      | 3, _ => exact f3
      | 4, _ => exact f4
      | 5, _ => exact f5
      | 6, _ => exact f6
      | 7, _ => exact f7
      | 8, _ => exact f8
      | 9, _ => exact f9
    · rw [List.getElem?_eq_none (by omega), List.getElem?_eq_none (by simp; omega)]
  · intro z hz
    simp only [List.mem_cons, List.not_mem_nil, or_false] at hz
    rcases hz with rfl | rfl | rfl | rfl | rfl | rfl | rfl | rfl | rfl | rfl
    · exact in64_of w0
    · exact in64_of w1
    · exact in64_of w2
    · exact in64_of w3
    · exact in64_of w4
    · exact in64_of w5
    · exact in64_of w6
    · exact in64_of w7
    · exact in64_of w8
    · exact in64_of w9
set_option maxRecDepth 100000 in
theorem open_usageT {H : Type} {enc : TypeId × Value → H} {W : World} {base : Nat} {held : Bool} {fuel : Nat} {cs : List Value} {x : DataW H × List MemPlace} (hsz : cs.length = 10) (hf : DataW.trod enc Tryd.prog W base (fun _ => true) held fuel 27 cs = some x) :
    ∃ s0 s1 s2 s3 s4 s5 s6 s7 s8 s9 : Int, cs = [.int .i64 s0, .int .i64 s1, .int .i64 s2, .int .i64 s3, .int .i64 s4, .int .i64 s5, .int .i64 s6, .int .i64 s7, .int .i64 s8, .int .i64 s9] ∧ ∀ z ∈ [s0, s1, s2, s3, s4, s5, s6, s7, s8, s9], In64 z := by
  obtain ⟨xs, n, _, _, _, hl, hfld⟩ := DataW.trod_struct Tryd.underlying27 hf
  have hl10 : xs.length = 10 := hl
  have h0 := hfld 0 _ rfl
  rw [List.getElem?_eq_getElem (show 0 < xs.length by omega)] at h0
  obtain ⟨x0, e0, _, w0⟩ := DataW.trod_int Tryd.underlying3 h0
  change (cs.drop 0).take (Tryd.prog.cellsOf 3) = _ at e0
  rw [cells1nT] at e0
  have f0 := take_oneT e0
  have h1 := hfld 1 _ rfl
  rw [List.getElem?_eq_getElem (show 1 < xs.length by omega)] at h1
  obtain ⟨x1, e1, _, w1⟩ := DataW.trod_int Tryd.underlying3 h1
  change (cs.drop 1).take (Tryd.prog.cellsOf 3) = _ at e1
  rw [cells1nT] at e1
  have f1 := take_oneT e1
  have h2 := hfld 2 _ rfl
  rw [List.getElem?_eq_getElem (show 2 < xs.length by omega)] at h2
  obtain ⟨x2, e2, _, w2⟩ := DataW.trod_int Tryd.underlying3 h2
  change (cs.drop 2).take (Tryd.prog.cellsOf 3) = _ at e2
  rw [cells1nT] at e2
  have f2 := take_oneT e2
  have h3 := hfld 3 _ rfl
  rw [List.getElem?_eq_getElem (show 3 < xs.length by omega)] at h3
  obtain ⟨x3, e3, _, w3⟩ := DataW.trod_int Tryd.underlying3 h3
  change (cs.drop 3).take (Tryd.prog.cellsOf 3) = _ at e3
  rw [cells1nT] at e3
  have f3 := take_oneT e3
  have h4 := hfld 4 _ rfl
  rw [List.getElem?_eq_getElem (show 4 < xs.length by omega)] at h4
  obtain ⟨x4, e4, _, w4⟩ := DataW.trod_int Tryd.underlying3 h4
  change (cs.drop 4).take (Tryd.prog.cellsOf 3) = _ at e4
  rw [cells1nT] at e4
  have f4 := take_oneT e4
  have h5 := hfld 5 _ rfl
  rw [List.getElem?_eq_getElem (show 5 < xs.length by omega)] at h5
  obtain ⟨x5, e5, _, w5⟩ := DataW.trod_int Tryd.underlying3 h5
  change (cs.drop 5).take (Tryd.prog.cellsOf 3) = _ at e5
  rw [cells1nT] at e5
  have f5 := take_oneT e5
  have h6 := hfld 6 _ rfl
  rw [List.getElem?_eq_getElem (show 6 < xs.length by omega)] at h6
  obtain ⟨x6, e6, _, w6⟩ := DataW.trod_int Tryd.underlying3 h6
  change (cs.drop 6).take (Tryd.prog.cellsOf 3) = _ at e6
  rw [cells1nT] at e6
  have f6 := take_oneT e6
  have h7 := hfld 7 _ rfl
  rw [List.getElem?_eq_getElem (show 7 < xs.length by omega)] at h7
  obtain ⟨x7, e7, _, w7⟩ := DataW.trod_int Tryd.underlying3 h7
  change (cs.drop 7).take (Tryd.prog.cellsOf 3) = _ at e7
  rw [cells1nT] at e7
  have f7 := take_oneT e7
  have h8 := hfld 8 _ rfl
  rw [List.getElem?_eq_getElem (show 8 < xs.length by omega)] at h8
  obtain ⟨x8, e8, _, w8⟩ := DataW.trod_int Tryd.underlying3 h8
  change (cs.drop 8).take (Tryd.prog.cellsOf 3) = _ at e8
  rw [cells1nT] at e8
  have f8 := take_oneT e8
  have h9 := hfld 9 _ rfl
  rw [List.getElem?_eq_getElem (show 9 < xs.length by omega)] at h9
  obtain ⟨x9, e9, _, w9⟩ := DataW.trod_int Tryd.underlying3 h9
  change (cs.drop 9).take (Tryd.prog.cellsOf 3) = _ at e9
  rw [cells1nT] at e9
  have f9 := take_oneT e9
  refine ⟨x0, x1, x2, x3, x4, x5, x6, x7, x8, x9, ?_, ?_⟩
  · apply List.ext_getElem?
    intro i
    rcases Nat.lt_or_ge i 10 with h | h
    · match i, h with
      | 0, _ => exact f0
      | 1, _ => exact f1
      | 2, _ => exact f2
      | 3, _ => exact f3
      | 4, _ => exact f4
      | 5, _ => exact f5
      | 6, _ => exact f6
      | 7, _ => exact f7
      | 8, _ => exact f8
      | 9, _ => exact f9
    · rw [List.getElem?_eq_none (by omega), List.getElem?_eq_none (by simp; omega)]
  · intro z hz
    simp only [List.mem_cons, List.not_mem_nil, or_false] at hz
    rcases hz with rfl | rfl | rfl | rfl | rfl | rfl | rfl | rfl | rfl | rfl
    · exact in64_of w0
    · exact in64_of w1
    · exact in64_of w2
    · exact in64_of w3
    · exact in64_of w4
    · exact in64_of w5
    · exact in64_of w6
    · exact in64_of w7
    · exact in64_of w8
    · exact in64_of w9
set_option maxRecDepth 100000 in
theorem open_ans {H : Type} {enc : TypeId × Value → H} {W : World} {r : Reach} {b0 base : Nat} {held : Bool} {v : Value} {d : DataW H} {pl : List MemPlace} (hv : Value.okWide Tryd.prog W r b0 29 v) (h : DataW.Trod enc Tryd.prog W base (fun _ => true) held 29 v d pl) :
    ∃ (cd nn : Int) (zs : List UInt8) (s0 s1 s2 s3 s4 s5 s6 s7 s8 s9 : Int) (L : List EK) (q0 q1 q2 q3 q4 q5 q6 q7 q8 q9 : Int) (C : Array Value), v = .agg C ∧ AnsAt cd nn zs s0 s1 s2 s3 s4 s5 s6 s7 s8 s9 L q0 q1 q2 q3 q4 q5 q6 q7 q8 q9 C W ∧ (∀ e ∈ L, e.1.size ≤ maxLen) ∧ L.length ≤ maxLen ∧ AnsIn cd nn zs s0 s1 s2 s3 s4 s5 s6 s7 s8 s9 L q0 q1 q2 q3 q4 q5 q6 q7 q8 q9 := by
  obtain ⟨cs, rfl, hsz⟩ := Go.WideShapes.okWide_struct Tryd.underlying29 hv
  rw [cells24T] at hsz
  obtain ⟨fuel, hf⟩ := h
  obtain ⟨xs, n, _, _, _, hl, hfld⟩ := DataW.trod_struct Tryd.underlying29 hf
  have hc : (Value.agg cs).cells.toList = cs.toList := rfl
  rw [hc] at hfld
  have hl6 : xs.length = 6 := hl
  have hlen : cs.toList.length = 24 := by rw [Array.length_toList, hsz]
  have h0 := hfld 0 _ rfl
  rw [List.getElem?_eq_getElem (show 0 < xs.length by omega)] at h0
  have h1 := hfld 1 _ rfl
  rw [List.getElem?_eq_getElem (show 1 < xs.length by omega)] at h1
  have h2 := hfld 2 _ rfl
  rw [List.getElem?_eq_getElem (show 2 < xs.length by omega)] at h2
  have h3 := hfld 3 _ rfl
  rw [List.getElem?_eq_getElem (show 3 < xs.length by omega)] at h3
  have h4 := hfld 4 _ rfl
  rw [List.getElem?_eq_getElem (show 4 < xs.length by omega)] at h4
  have h5 := hfld 5 _ rfl
  rw [List.getElem?_eq_getElem (show 5 < xs.length by omega)] at h5
  obtain ⟨cd, e0, _, w0⟩ := DataW.trod_int Tryd.underlying3 h0
  change (cs.toList.drop 0).take (Tryd.prog.cellsOf 3) = _ at e0
  obtain ⟨nn, e1, _, w1⟩ := DataW.trod_int Tryd.underlying3 h1
  change (cs.toList.drop 1).take (Tryd.prog.cellsOf 3) = _ at e1
  obtain ⟨dv, zs, e2, hrd⟩ := open_bytesT h2
  change (cs.toList.drop 2).take (Tryd.prog.cellsOf 22) = _ at e2
  obtain ⟨s0, s1, s2, s3, s4, s5, s6, s7, s8, s9, e3, hss⟩ := open_statT (by
    change ((cs.toList.drop 3).take (Tryd.prog.cellsOf 24)).length = 10
    rw [cells10sT]
    simp [hsz]) h3
  change (cs.toList.drop 3).take (Tryd.prog.cellsOf 24) = _ at e3
  obtain ⟨nv, L, e4, hre, hlm, hms, hin⟩ := open_entsT h4
  change (cs.toList.drop 13).take (Tryd.prog.cellsOf 25) = _ at e4
  obtain ⟨q0, q1, q2, q3, q4, q5, q6, q7, q8, q9, e5, hus⟩ := open_usageT (by
    change ((cs.toList.drop 14).take (Tryd.prog.cellsOf 27)).length = 10
    rw [cells10uT]
    simp [hsz]) h5
  change (cs.toList.drop 14).take (Tryd.prog.cellsOf 27) = _ at e5
  rw [cells1nT] at e0 e1
  rw [cells1bT] at e2
  rw [cells10sT] at e3
  rw [cells1dT] at e4
  rw [cells10uT] at e5
  refine ⟨cd, nn, zs, s0, s1, s2, s3, s4, s5, s6, s7, s8, s9, L, q0, q1, q2, q3, q4, q5, q6, q7, q8, q9, cs, rfl, ⟨dv, nv, ?_, hrd, hre⟩, hms, hlm, in64_of w0, in64_of w1, hss, hus, hin⟩
  apply Array.ext'
  have a1 := (List.take_append_drop 1 cs.toList).symm
  have a2 := (List.take_append_drop 1 (cs.toList.drop 1)).symm
  have a3 := (List.take_append_drop 1 (cs.toList.drop 2)).symm
  have a4 := (List.take_append_drop 10 (cs.toList.drop 3)).symm
  have a5 := (List.take_append_drop 1 (cs.toList.drop 13)).symm
  have a6 : cs.toList.drop 14 = (cs.toList.drop 14).take 10 := (List.take_of_length_le (by rw [List.length_drop, hlen]; decide)).symm
  rw [List.drop_drop] at a2 a3 a4 a5
  rw [List.drop_zero] at e0
  rw [e0] at a1
  rw [e1] at a2
  rw [e2] at a3
  rw [e3] at a4
  rw [e4] at a5
  rw [e5] at a6
  rw [a1, a2, a3, a4, a5, a6]
  rfl
end Go.Proofs.YtnljpaohkkdjjaaDoor
