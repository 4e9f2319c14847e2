/- The model's ParseLine. -/
import Derived.Test.YtnljpaohkkdjjaaGreatDoorPmC
import Derived.Test.YtnljpaohkkdjjaaGreatDoorPmG
import Derived.Test.YtnljpaohkkdjjaaGreatDoorPlE
namespace Go.Proofs.YtnljpaohkkdjjaaGreatDoor
set_option linter.unusedVariables false
set_option linter.unusedSimpArgs false
open Go.RowKit

/-- The bytes that an operation in the making has, behind block b. -/
def DvI (w : World) (b : Nat) (dv : Value) (d : List UInt8) : Prop := (dv = .slice none 0 0 ∧ d = []) ∨ ∃ g cap, dv = .slice (some ⟨g, 0, none⟩) d.length cap ∧ b < g ∧ g < w.heap.size ∧ d.length ≤ cap ∧ cap ≤ maxLen ∧ ∀ (i : Nat) (c : UInt8), d[i]? = some c → w.cell? ⟨g, i, none⟩ = some (.int .u8 (c.toNat : Int))
theorem DvI.keep {w w' : World} {b : Nat} {dv : Value} {d : List UInt8} (h : DvI w b dv d) (hs : w.heap.size ≤ w'.heap.size) (hk : ∀ g, b < g → g < w.heap.size → w'.heap[g]? = w.heap[g]?) : DvI w' b dv d := by
  rcases h with h | ⟨g, cap, h1, h2, h3, h4, h5, h6⟩
  · exact .inl h
  · exact .inr ⟨g, cap, h1, h2, Nat.lt_of_lt_of_le h3 hs, h4, h5, fun i c hc => (World.cell?_of_block (a := ⟨g, i, none⟩) (hk g h2 h3)).trans (h6 i c hc)⟩
theorem DvI.rd {w : World} {b : Nat} {dv : Value} {d : List UInt8} (h : DvI w b dv d) : Rd .u8 w dv (d.map fun c => (c.toNat : Int)) := by
  rcases h with ⟨rfl, rfl⟩ | ⟨g, cap, rfl, h2, h3, h4, h5, h6⟩
  · exact ⟨none, 0, rfl, by simp, fun h => absurd rfl h, by simp, by simp⟩
  · refine ⟨some ⟨g, 0, none⟩, cap, by simp, by rw [List.length_map]; omega, fun _ => ⟨g, 0, rfl, h3, fun i hi => ?_⟩, by rw [List.length_map]; exact h4, h5⟩
    rw [List.length_map] at hi
    rw [Nat.zero_add, h6 i d[i] (List.getElem?_eq_getElem hi)]
    simp [List.getD, hi]
theorem DvI.shape {w : World} {b : Nat} {dv : Value} {d : List UInt8} (h : DvI w b dv d) : ∃ a n c, dv = .slice a n c := by
  rcases h with ⟨rfl, _⟩ | ⟨g, cap, rfl, _⟩ <;> exact ⟨_, _, _, rfl⟩
theorem DvI.bytes (w : World) (b : Nat) (t : List UInt8) (hb : b < w.heap.size) (ht : t.length ≤ maxLen) : DvI (Go.Lib.bytesWorld w 5 (mk t)) b (.slice (some ⟨w.heap.size, 0, none⟩) (mk t).size (grownCap w (mk t).size 0 5)) t := by
  rw [mk_size]
  refine .inr ⟨w.heap.size, _, rfl, hb, by rw [Go.Lib.bytesWorld_size]; omega, grownCap_ge _ _ _ _, grownCap_le_maxLen _ _ _ _ ht, fun i c hc => ?_⟩
  have hi : i < (mk t).size := by rw [mk_size]; exact (List.getElem?_eq_some_iff.1 hc).1
  rw [Go.Lib.bytesWorld_cell w _ (mk t) i hi, mk_toList]
  simp [List.getD, hc]
/-- A line in the midst of being read: b: where the operation lies; W: the world ahead of it. -/
structure PsI (W : World) (F : List UInt8) (xs : List (List UInt8)) (K : Int) (k nn : Nat) (st : OpD) (dv : Value) (wr : World) : Prop where
  blk : Blk wr W.heap.size (opC K st.A st.B 0 0 (mk st.p) (mk st.q) dv) 24
  dat : DvI wr W.heap.size dv st.d
  fr : Below W.heap.size W wr
  run : runF opD0 0 F xs = runF st nn (F.drop k) (xs.drop k)
theorem run_step {F : List UInt8} {xs : List (List UInt8)} {k nn : Nat} {st : OpD} {f : UInt8} {x : List UInt8} (hf : F[k]? = some f) (hx : xs[k]? = some x) : runF st nn (F.drop k) (xs.drop k) = match sayF f x with | .ok y => runF (putF st nn f y) (nnF nn f) (F.drop (k + 1)) (xs.drop (k + 1)) | .error c => .error c := by
  obtain ⟨h1, h2⟩ := List.getElem?_eq_some_iff.1 hf
  obtain ⟨h3, h4⟩ := List.getElem?_eq_some_iff.1 hx
  rw [List.drop_eq_getElem_cons h1, List.drop_eq_getElem_cons h3, h2, h4]
  rfl
theorem ps_bad {W wr : World} {F : List UInt8} {xs : List (List UInt8)} {K : Int} {k nn : Nat} {st : OpD} {dv : Value} {f : UInt8} {x : List UInt8} {c : Int} (h : PsI W F xs K k nn st dv wr) (hf : F[k]? = some f) (hx : xs[k]? = some x) (hs : sayF f x = .error c) : runF opD0 0 F xs = .error c := by
  rw [h.run, run_step hf hx, hs]
theorem ps_end {W wr : World} {F : List UInt8} {xs : List (List UInt8)} {K : Int} {k nn : Nat} {st : OpD} {dv : Value} (h : PsI W F xs K k nn st dv wr) (hk : F.length ≤ k) : runF opD0 0 F xs = .ok st := by
  rw [h.run, List.drop_eq_nil_of_le hk]
  simp [runF]
theorem PsI.below {W wr w' : World} {F : List UInt8} {xs : List (List UInt8)} {K : Int} {k nn : Nat} {st : OpD} {dv : Value} (h : PsI W F xs K k nn st dv wr) (hb : Below wr.heap.size wr w') : PsI W F xs K k nn st dv w' :=
  ⟨h.blk.below hb h.blk.lt, h.dat.keep hb.size (fun g _ hg => hb.block g hg), h.fr.trans (hb.mono h.fr.size), h.run⟩
/-- One field set. -/
theorem ps_set {W wr : World} {F : List UInt8} {xs : List (List UInt8)} {K : Int} {k nn : Nat} {st st' : OpD} {dv : Value} {f : UInt8} {x : List UInt8} {y : Int × List UInt8} (h : PsI W F xs K k nn st dv wr) (hf : F[k]? = some f) (hx : xs[k]? = some x) (hs : sayF f x = .ok y) (o : Nat) (u : Value)
    (hst : putF st nn f y = st') (hd : st'.d = st.d) (hC : (opC K st.A st.B 0 0 (mk st.p) (mk st.q) dv).setIfInBounds o u = opC K st'.A st'.B 0 0 (mk st'.p) (mk st'.q) dv) : PsI W F xs K (k + 1) (nnF nn f) st' dv (wr.setCell ⟨W.heap.size, o, none⟩ u) := by
  refine ⟨?_, ?_, ?_, by rw [h.run, run_step hf hx, hs, ← hst]⟩
  · rw [← hC]; exact h.blk.set o u
  · rw [hd]; exact h.dat.keep (by simp) (fun g hg _ => heap_setCell_other wr ⟨W.heap.size, o, none⟩ g u (by show g ≠ W.heap.size; omega))
  · exact h.fr.setCell (by simp) _
theorem ps_data {W wr w' : World} {F : List UInt8} {xs : List (List UInt8)} {K : Int} {k nn : Nat} {st : OpD} {dv dv' : Value} {f : UInt8} {x t : List UInt8} (h : PsI W F xs K k nn st dv wr) (hf : F[k]? = some f) (hx : xs[k]? = some x) (hs : sayF f x = .ok (0, t)) (hb : Below wr.heap.size wr w') (hd : DvI w' W.heap.size dv' t)
    (hst : putF st nn f (0, t) = { st with d := t }) : PsI W F xs K (k + 1) (nnF nn f) { st with d := t } dv' (w'.setCell ⟨W.heap.size, 7, none⟩ dv') := by
  have h2 := h.below hb
  refine ⟨?_, ?_, ?_, by rw [h.run, run_step hf hx, hs, ← hst]⟩
  · exact h2.blk.set 7 dv'
  · exact hd.keep (by simp) (fun g hg _ => heap_setCell_other w' ⟨W.heap.size, 7, none⟩ g dv' (by show g ≠ W.heap.size; omega))
  · exact h2.fr.setCell (by simp) _
theorem form_ix (F : List UInt8) (k : Nat) (f : UInt8) (hf : F[k]? = some f) (W : World) : (Instr.index 9 (.string (mk F)) (.int .i64 (k : Int))).run Tryz.prog W = .ok (.int .u8 (f.toNat : Int)) W := by
  have hk : k < (mk F).size := by rw [mk_size]; exact (List.getElem?_eq_some_iff.1 hf).1
  have hb := byte_at (mk F) k hk
  rw [mk_toList, hf] at hb
  have he : (mk F)[k] = f := (Option.some.inj hb).symm
  rw [← he]
  go_simp
end Go.Proofs.YtnljpaohkkdjjaaGreatDoor
