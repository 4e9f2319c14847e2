/- The model's bytes of a list of entries: l11Log. The model's LogDrop. -/
import Derived.Test.YthkoflpcinbgeaaZp46
import Derived.Test.YthkoflpcinbgeaaZp40
namespace Go.Proofs.Ythkoflpcinbgeaa
set_option linter.unusedVariables false
set_option linter.unusedSimpArgs false
open Go.RowKit

theorem encL_raw {e : EntL} (h : e.ok) : encL (e.n : Int) e.K e.A e.B e.U e.G e.p e.q e.ds = e.raw ∧ codeLR (e.n : Int) e.K e.U e.G e.p e.q e.ds.length = 0 := by
  have hn := h.1
  have hw : wi (e.n : Int) 1 1099511627776 = true := by unfold wi; simp; omega
  constructor
  · unfold encL rightL encO EntL.raw EntL.body
    rw [hw, h.2.1, Bool.and_true, if_pos rfl, if_pos rfl, Int.toNat_natCast]
  · unfold codeLR rightL
    rw [hw, h.2.1, Bool.and_true, if_pos rfl]
theorem flat_snoc {M : List EntL} {k : Nat} {e : EntL} (h : M[k]? = some e) : ((M.take (k + 1)).map EntL.raw).flatten = ((M.take k).map EntL.raw).flatten ++ e.raw := by
  rw [List.take_add_one, h]
  simp
set_option maxRecDepth 100000 in
set_option maxHeartbeats 4000000 in
theorem l11Log_any (v : Value) (M : List EntL) (us : List Value) (w : World) (h : RdN w 8 v (M.map neE) us) (hok : ∀ e ∈ M, e.ok ∧ ∀ z ∈ e.raw, 0 ≤ z ∧ z < 256) (htot : (M.map EntL.raw).flatten.length ≤ 1048576) :
    Calls Try.prog 16 #[v] w fun e w' => ∃ v', e = .returned v' ∧ w'.ownsRow w.heap.size 5 1 v' (M.map EntL.raw).flatten.length ((M.map EntL.raw).flatten.map (Value.int .u8)) ∧ Below w.heap.size w w' := by
  obtain ⟨i0, hi, hz0, hz1, hz2⟩ := info_parts infoU8
  have hMl : (M.map neE).length = M.length := List.length_map ..
  obtain ⟨a, cap, rfl⟩ : ∃ a cap, v = .slice a M.length cap := by obtain ⟨a, cap, e, _⟩ := h.row; rw [hMl] at e; exact ⟨a, cap, e⟩
  have hMk : M.length * 45 ≤ 1048576 := by
    have : ∀ (N : List EntL), N.length * 45 ≤ (N.map EntL.raw).flatten.length := fun N => by
      induction N with
      | nil => simp
      | cons e N ih =>
        rw [List.map_cons, List.flatten_cons, List.length_append, List.length_cons]
        have := raw_pos e
        omega
    have := this M
    omega
  have HG := hide (And.intro h (And.intro hok htot))
  have O0 := hide (own_empty w 5)
  have B0 := hide ((Below.refl w.heap.size w).alloc (Nat.le_refl _) (.cells #[] 5))
  clear h hok htot hMl
  go_enter Try.func16, Try.ntmps16
  go_wp2
  go_loopw [3, 11] (fun o i wr => ∃ k : Nat, k ≤ M.length ∧ i = .int .i64 k ∧ wr.ownsRow w.heap.size 5 1 o ((M.take k).map EntL.raw).flatten.length (((M.take k).map EntL.raw).flatten.map (Value.int .u8)) ∧ Below w.heap.size w wr) (fun _ i _ => M.length - (intOf i).toNat)
  case atStart => exact ⟨0, by omega, rfl, by simpa using O0.out, B0.out⟩
  case round =>
    clear O0 B0
    obtain ⟨k, hk, rfl, hown, hb⟩ := hrel
    by_cases hlt : k < M.length
    · obtain ⟨e, he⟩ : ∃ e, M[k]? = some e := ⟨_, List.getElem?_eq_getElem hlt⟩
      have hle : (M.map neE)[k]? = some (neE e) := by rw [List.getElem?_map, he]; rfl
      have hrd : RdN wr 8 (.slice a (M.map neE).length cap) (M.map neE) us := by rw [List.length_map]; exact HG.out.1.below hb
      obtain ⟨gb, off, uu, rfl, hgb, _, hRd, hrg⟩ := hrd.at hle
      have heo := HG.out.2.1 e (List.mem_of_getElem? he)
      have HF := hide (flat_snoc he)
      have HT := hide (show ((M.take k).map EntL.raw).flatten.length + e.raw.length ≤ 1048576 from by
        have h1 := flat_take M (k + 1)
        rw [HF.out, List.length_append] at h1
        have := HG.out.2.2
        omega)
      generalize hFL : ((M.take k).map EntL.raw).flatten = FL at HF HT hown
      clear hFL
      have HR := hide (encL_raw heo.1)
      have hbd := rightO_bd heo.1.2.1
      have HE := hide (And.intro heo (raw_pos e))
      obtain ⟨en, eK, eA, eB, eU, eG, ep, eq, es⟩ := e
      obtain ⟨da, dc, rfl⟩ : ∃ da dc, uu = .slice da es.length dc := by obtain ⟨x1, x2, h1, _⟩ := hRd; exact ⟨x1, x2, h1⟩
      have hrg' : wr.rangeAt gb (off + k * 9) [.int .i64 (en : Int), .int .i64 eK, .int .i64 eA, .int .i64 eB, .int .i64 eU, .int .i64 eG, .string ep, .string eq, .slice da es.length dc] := hrg
      have HRg := hide hrg'
      have bA : Below wr.heap.size wr (wr.alloc (.cells #[.int .i64 (en : Int), .int .i64 eK, .int .i64 eA, .int .i64 eB, .int .i64 eU, .int .i64 eG, .string ep, .string eq, .slice da es.length dc] 36)) := (Below.refl _ _).alloc (Nat.le_refl _) _
      have kA : Blk (wr.alloc (.cells #[.int .i64 (en : Int), .int .i64 eK, .int .i64 eA, .int .i64 eB, .int .i64 eU, .int .i64 eG, .string ep, .string eq, .slice da es.length dc] 36)) wr.heap.size #[.int .i64 (en : Int), .int .i64 eK, .int .i64 eA, .int .i64 eB, .int .i64 eU, .int .i64 eG, .string ep, .string eq, .slice da es.length dc] 36 := Blk.new wr _ _
      have k0 : (wr.alloc (.cells #[.int .i64 (en : Int), .int .i64 eK, .int .i64 eA, .int .i64 eB, .int .i64 eU, .int .i64 eG, .string ep, .string eq, .slice da es.length dc] 36)).cell? ⟨wr.heap.size, 0, none⟩ = some (.int .i64 (en : Int)) := (kA.cell 0).trans rfl
      have HA := hide (And.intro bA (And.intro kA (And.intro hRd (And.intro hown hb))))
      have HOp := hide (show (wr.alloc (.cells #[.int .i64 (en : Int), .int .i64 eK, .int .i64 eA, .int .i64 eB, .int .i64 eU, .int .i64 eG, .string ep, .string eq, .slice da es.length dc] 36)).rangeAt wr.heap.size 1 (opC eK eA eB eU eG ep eq (.slice da es.length dc)).toList from fun j u hj => by
        rw [kA.cell]
        match j, hj with
        | 0, hj => exact hj
        | 1, hj => exact hj
        | 2, hj => exact hj
        | 3, hj => exact hj
        | 4, hj => exact hj
        | 5, hj => exact hj
        | 6, hj => exact hj
        | 7, hj => exact hj
        | n + 8, hj => simp [opC] at hj)
      obtain ⟨oa, oc, rfl⟩ := own_shape hown
      simp only at hbd
      clear hrg hrg' hRd hown hb bA kA heo hle hrd he
      go_wp2_with (first | (refine wpList_load_mid rfl 36 _ rfl gb (off + k * 9) rfl [.int .i64 (en : Int), .int .i64 eK, .int .i64 eA, .int .i64 eB, .int .i64 eU, .int .i64 eG, .string ep, .string eq, .slice da es.length dc] _ HRg.out Try.underlying36 rfl infoLE ?_) | (refine wpList_store_row rfl 36 _ _ rfl wr.heap.size #[.int .i64 (en : Int), .int .i64 eK, .int .i64 eA, .int .i64 eB, .int .i64 eU, .int .i64 eG, .string ep, .string eq, .slice da es.length dc] rfl rfl 36 _ (Blk.new wr _ _) infoLE rfl (by rfl) ?_) | (refine wpList_load_mid rfl 34 _ rfl wr.heap.size 1 rfl (opC eK eA eB eU eG ep eq (.slice da es.length dc)).toList _ HOp.out Try.underlying34 rfl infoO8 ?_) | (go_at_call 20; fail))
      have B1 := hide (HA.out.2.2.2.2.trans (HA.out.1.mono HA.out.2.2.2.2.size))
      have O1 := hide (own_below HA.out.2.2.2.1 HA.out.1)
      refine (specLR_any (en : Int) eK eA eB eU eG ep eq _ es _ (HA.out.2.2.1.below HA.out.1) (EntL.ds_bd HE.out.1.2) (by unfold maxLen; omega) (by unfold maxLen; omega)).mono ?_
      rintro e w3 ⟨v3, rfl, o3, b3⟩
      rw [HR.out.1] at o3
      rw [HR.out.2]
      have hrl := HE.out.2
      generalize EntL.raw ⟨en, eK, eA, eB, eU, eG, ep, eq, es⟩ = RW at HF HT o3 hrl
      obtain ⟨va, vc, rfl⟩ := own_shape o3
      have R3 := hide (Rd.own o3)
      have O3 := hide (own_below O1.out b3)
      have B3 := hide (B1.out.trans (b3.mono B1.out.size))
      obtain ⟨bd, off2, cp, e1, hbd3, _, _, hcell⟩ := R3.out.partsC (by omega)
      injection e1 with e1 e2 e3
      subst e1 e3
      have HCl := hide hcell
      clear o3 b3 hcell k0 HA HOp HRg O1 B1 hbd3
      go_wp2_with (first | (at_builtin; refine wpList_append_own _ rfl (.tmp 23) (.tmp 24) 22 rfl w.heap.size 5 i0 (.int .u8 0) 1 1 Try.underlying22 hi hz0 hz1 hz2 rfl (by decide) _ _ _ rfl O3.out ⟨bd, off2, none⟩ RW.length vc (RW.map (Value.int .u8)) rfl (by simp) ?_ (ints_oneCell _ _) (by have := HT.out; unfold maxLen; omega) (by have := HT.out; omega) B3.out.size ?_; (intro j uu hj; rw [Addr.add_mid]; have hjl : j < RW.length := (by rcases Nat.lt_or_ge j RW.length with h | h; exact h; rw [List.getElem?_eq_none (by simpa using h)] at hj; cases hj); rw [HCl.out j hjl]; rw [List.getElem?_map, List.getElem?_eq_getElem hjl] at hj; simp at hj; rw [← hj]; simp [List.getD, hjl]); intro v4 w4 o4 g4 _; have H4 := hide (And.intro o4 (B3.out.grown g4 B3.out.size (fun q e => (O3.out.lt q e).1))); clear o4 g4) | fail)
      go_roundw
      case rel => exact ⟨k + 1, by omega, by go_num, by rw [HF.out, List.length_append, List.map_append]; exact H4.out.1, H4.out.2⟩
      case measure => simp [intOf]; omega
    · have ek : k = M.length := by omega
      obtain ⟨oa, oc, rfl⟩ := own_shape hown
      have HE := hide (show wr.ownsRow w.heap.size 5 1 (.slice oa ((M.take k).map EntL.raw).flatten.length oc) (M.map EntL.raw).flatten.length ((M.map EntL.raw).flatten.map (Value.int .u8)) ∧ Below w.heap.size w wr from ⟨by rw [ek, List.take_length] at hown ⊢; exact hown, hb⟩)
      clear hown hb ek
      go_wp2
      go_ret
      exact ⟨_, rfl, HE.out.1, HE.out.2⟩
end Go.Proofs.Ythkoflpcinbgeaa

namespace Go.Proofs.Ythkoflpcinbgeaa
set_option linter.unusedVariables false
set_option linter.unusedSimpArgs false
open Go.RowKit

/-- What is owned stays so while the blocks from base on, as far as they were there, do. -/
theorem own_same {W W' : World} {base n sz : Nat} {e : TypeId} {v : Value} {xs : List Value} (h : W.ownsRow base e sz v n xs) (hs : ∀ r, base ≤ r → r < W.heap.size → W'.heap[r]? = W.heap[r]?) : W'.ownsRow base e sz v n xs := by
  obtain ⟨h1, h2⟩ := h
  refine ⟨h1, ?_⟩
  rcases h2 with h2 | ⟨g, cap, cur, rfl, hbg, hg, hrest⟩
  · exact .inl h2
  · exact .inr ⟨g, cap, cur, rfl, hbg, by rw [hs g hbg (Array.getElem?_eq_some_iff.1 hg).1]; exact hg, hrest⟩
theorem OwnN.sameN {W W' : World} {base : Nat} {e : TypeId} {m : Nat} {v : Value} {L : List NE} {vs : List Value} (h : OwnN W base e m v L vs) (hs : ∀ r, base ≤ r → r < W.heap.size → W'.heap[r]? = W.heap[r]?) : OwnN W' base e m v L vs :=
  ⟨h.len, h.pre, own_same h.row hs, fun i u l hu hl => own_same (h.dat i u l hu hl) hs, h.one⟩
/-- The entries above a number. -/
def keepL (u : Int) (L : List EntL) : List EntL := L.filter (fun e => decide (u < (e.n : Int)))
theorem keepL_snoc {u : Int} {L : List EntL} {k : Nat} {e : EntL} (h : L[k]? = some e) : keepL u (L.take (k + 1)) = keepL u (L.take k) ++ (if u < (e.n : Int) then [e] else []) := by
  unfold keepL
  rw [List.take_add_one, h, List.filter_append]
  by_cases hu : u < (e.n : Int) <;> simp [hu]
theorem keepL_len (u : Int) (L : List EntL) (k : Nat) : (keepL u (L.take k)).length ≤ L.length := by
  have h1 := List.length_filter_le (fun e : EntL => decide (u < (e.n : Int))) (L.take k)
  have h2 : (L.take k).length ≤ L.length := by rw [List.length_take]; omega
  unfold keepL
  omega
/-- Between two rounds: w1 is the world in which the log had been read. -/
structure Ild (w w1 : World) (u : Int) (L : List EntL) (k : Nat) (lf : Value) (us : List Value) (wr : World) : Prop where
  row : wr.ownsRow w.heap.size 36 9 lf (keepL u (L.take k)).length (cellsN us ((keepL u (L.take k)).map neE))
  len : us.length = ((keepL u (L.take k)).map neE).length
  dat : ∀ (i : Nat) (x : Value) (l : NE), us[i]? = some x → ((keepL u (L.take k)).map neE)[i]? = some l → w1.ownsRow (w.heap.size + 1) 5 1 x l.2.length (l.2.map (Value.int .u8))
  same : ∀ r, w.heap.size + 1 ≤ r → r < w1.heap.size → wr.heap[r]? = w1.heap[r]?
  old : Below w.heap.size w wr
  size : w1.heap.size ≤ wr.heap.size
  blk : ∀ b, lf.ownBlock = some b → b = w.heap.size ∨ w1.heap.size ≤ b
theorem Ild.rd {w w1 wr : World} {u : Int} {L : List EntL} {k : Nat} {lf : Value} {us : List Value} (h : Ild w w1 u L k lf us wr) : RdN wr 8 lf ((keepL u (L.take k)).map neE) us := by
  have hl : ((keepL u (L.take k)).map neE).length = (keepL u (L.take k)).length := List.length_map ..
  refine ⟨h.len, neE_pre _, ?_, fun i x l hx hl' => Rd.own (own_same (h.dat i x l hx hl') h.same)⟩
  have hrow := h.row
  rcases h.row.2 with ⟨rfl, h0⟩ | ⟨g, cap, cur, rfl, hb, hg, h1, h2, h3, h4⟩
  · exact ⟨none, 0, by rw [hl, h0], fun hn => by omega, by omega, by unfold maxLen; omega⟩
  · refine ⟨some ⟨g, 0, none⟩, cap, by rw [hl], fun _ => ⟨g, 0, rfl, (hrow.lt g rfl).2, fun j x hx => ?_⟩, by rw [hl]; exact h1, h2⟩
    have := hrow.cells (g := g) rfl j x hx
    rw [Addr.add_mid] at this
    exact this
theorem Ild.skip {w w1 wr w' : World} {u : Int} {L : List EntL} {k : Nat} {lf : Value} {us : List Value} {e : EntL} (h : Ild w w1 u L k lf us wr) (he : L[k]? = some e) (hu : ¬ u < (e.n : Int)) (hb : Below wr.heap.size wr w') : Ild w w1 u L (k + 1) lf us w' := by
  have hk : keepL u (L.take (k + 1)) = keepL u (L.take k) := by rw [keepL_snoc he, if_neg hu, List.append_nil]
  refine ⟨by rw [hk]; exact own_below h.row hb, by rw [hk]; exact h.len, by rw [hk]; exact h.dat, fun r h1 h2 => (hb.block r (Nat.lt_of_lt_of_le h2 h.size)).trans (h.same r h1 h2), h.old.trans (hb.mono h.old.size), Nat.le_trans h.size hb.size, h.blk⟩
theorem Ild.push {w w1 wr wa w' : World} {u : Int} {L : List EntL} {k : Nat} {lf lf' x : Value} {us : List Value} {e : EntL} (h : Ild w w1 u L k lf us wr) (he : L[k]? = some e) (hu : u < (e.n : Int)) (hb : Below wr.heap.size wr wa) (hx : w1.ownsRow (w.heap.size + 1) 5 1 x e.ds.length (e.ds.map (Value.int .u8)))
    (ho : w'.ownsRow w.heap.size 36 9 lf' ((keepL u (L.take k)).length + 1) (cellsN us ((keepL u (L.take k)).map neE) ++ ((neE e).1 ++ [x]))) (hg : wa.grownBy w' lf.ownBlock) (ha : lf'.ownBlock = lf.ownBlock ∨ lf'.ownBlock = some wa.heap.size) : Ild w w1 u L (k + 1) lf' (us ++ [x]) w' := by
  have hk : keepL u (L.take (k + 1)) = keepL u (L.take k) ++ [e] := by rw [keepL_snoc he, if_pos hu]
  have hsz := hb.size
  have hsz2 := h.size
  have hso := h.old.size
  refine ⟨?_, ?_, fun i y l hy hl => ?_, fun r h1 h2 => ?_, ?_, Nat.le_trans h.size (Nat.le_trans hb.size hg.size), fun b hb' => ?_⟩
  · rw [hk, List.length_append, List.map_append, cellsN_append _ _ _ _ h.len]
    simpa [cellsN] using ho
  · rw [hk, List.map_append, List.length_append, List.length_append, h.len]
    rfl
  · rw [hk, List.map_append] at hl
    by_cases hi : i < us.length
    · rw [List.getElem?_append_left hi] at hy
      rw [List.getElem?_append_left (by rw [← h.len]; exact hi)] at hl
      exact h.dat i y l hy hl
    · have hi2 : i = us.length := by
        have := (List.getElem?_eq_some_iff.1 hy).1
        simp at this
        omega
      subst hi2
      rw [List.getElem?_append_right (Nat.le_refl _), Nat.sub_self] at hy
      rw [h.len, List.getElem?_append_right (Nat.le_refl _), Nat.sub_self] at hl
      simp at hy hl
      subst hy
      subst hl
      exact hx
  · refine (hg.block r (by omega) (fun e' => ?_)).trans ((hb.block r (by omega)).trans (h.same r h1 h2))
    rcases h.blk r e'.symm with h3 | h3 <;> omega
  · exact (h.old.trans (hb.mono h.old.size)).grown hg (by omega) (fun q e' => (h.row.lt q e').1)
  · rcases ha with ha | ha
    · rw [ha] at hb'
      exact h.blk b hb'
    · rw [ha] at hb'
      injection hb' with hb'
      omega
set_option maxRecDepth 100000 in
set_option maxHeartbeats 4000000 in
theorem specLD_any (v : Value) (zs : List Int) (u : Int) (L : List EntL) (w : World) (hL : Sc none zs L) (h : Rd .u8 w v zs) (hbd : ∀ z ∈ zs, 0 ≤ z ∧ z < 256) (hz : zs.length ≤ 1048576) :
    Calls Try.prog 5 #[v, .int .i64 u] w fun e w' => ∃ v', e = .returned v' ∧ w'.ownsRow w.heap.size 5 1 v' (keepB u L).length ((keepB u L).map (Value.int .u8)) ∧ Below w.heap.size w w' := by
  obtain ⟨a, cap, rfl⟩ : ∃ a cap, v = .slice a zs.length cap := by obtain ⟨a, cap, h1, _⟩ := h; exact ⟨a, cap, h1⟩
  obtain ⟨i0, hi, hz0, hz1, hz2⟩ := info_parts infoLEz
  have B0 := hide ((Below.refl w.heap.size w).alloc (Nat.le_refl _) (.cells #[] 36))
  have O0 := hide (OwnN.empty w 36 8).row
  have HG := hide (And.intro h (And.intro hbd hL))
  have hLk : L.length * 45 ≤ 1048576 := by have := hL.len; omega
  clear h hbd hL
  go_enter Try.func5, Try.ntmps5
  go_wp2_with (go_at_call 11; fail)
  refine (specLS_any _ zs L _ HG.out.2.2 (HG.out.1.below B0.out) HG.out.2.1 hz).mono ?_
  rintro e w1 ⟨v1, vs, rfl, o1, b1⟩
  have hsa : (w.alloc (.cells #[] 36)).heap.size = w.heap.size + 1 := by simp
  rw [hsa] at o1 b1
  have hml : (L.map neE).length = L.length := List.length_map ..
  obtain ⟨va, vc, hv1⟩ := own_shape o1.row
  rw [hml] at hv1
  subst hv1
  have H1 := hide (And.intro o1 b1)
  have I0 := hide (show Ild w w1 u L 0 (.slice (some ⟨w.heap.size, 0, none⟩) 0 0) [] w1 from by
    refine ⟨?_, by simp [keepL], fun i x l hx => by simp at hx, fun _ _ _ => rfl, B0.out.trans (b1.mono (by omega)), Nat.le_refl _, fun b hb => by simp [Value.ownBlock] at hb; omega⟩
    have := own_below O0.out (by rw [hsa]; exact b1)
    simpa [keepL] using this)
  have hs1 := b1.size
  rw [hsa] at hs1
  clear o1 b1 hsa hml O0
  go_wp2
  go_loopw [5, 12] (fun lf i wr => ∃ (k : Nat) (us : List Value), k ≤ L.length ∧ i = .int .i64 k ∧ Ild w w1 u L k lf us wr) (fun _ i _ => L.length - (intOf i).toNat)
  case atStart => exact ⟨0, _, by omega, rfl, I0.out⟩
  case round =>
    clear I0
    obtain ⟨k, us, hk, rfl, hI⟩ := hrel
    by_cases hlt : k < L.length
    · obtain ⟨e, he⟩ : ∃ e, L[k]? = some e := ⟨_, List.getElem?_eq_getElem hlt⟩
      have hle : (L.map neE)[k]? = some (neE e) := by rw [List.getElem?_map, he]; rfl
      have hrd : RdN wr 8 (.slice va (L.map neE).length vc) (L.map neE) vs := by rw [List.length_map]; exact (H1.out.1.sameN hI.same).rd
      obtain ⟨gb, off, uu, rfl, hgb, hus, hRd, hrg⟩ := hrd.at hle
      have hux := H1.out.1.dat k uu _ hus hle
      have HE := hide he
      obtain ⟨kl, hkl⟩ : ∃ kl, kl = (keepL u (L.take k)).length := ⟨_, rfl⟩
      have hklb : kl ≤ L.length := by rw [hkl]; exact keepL_len u L k
      have hrow := hI.row
      obtain ⟨la, lc, hlf⟩ := own_shape hrow
      rw [← hkl] at hlf hrow
      subst hlf
      have HI := hide hI
      have HKl := hide hkl
      obtain ⟨en, eK, eA, eB, eU, eG, ep, eq, es⟩ := e
      obtain ⟨da, dc, rfl⟩ : ∃ da dc, uu = .slice da es.length dc := by obtain ⟨x1, x2, h1, _⟩ := hRd; exact ⟨x1, x2, h1⟩
      have HRg := hide (show wr.rangeAt gb (off + k * 9) [.int .i64 (en : Int), .int .i64 eK, .int .i64 eA, .int .i64 eB, .int .i64 eU, .int .i64 eG, .string ep, .string eq, .slice da es.length dc] from hrg)
      have bA : Below wr.heap.size wr (wr.alloc (.cells #[.int .i64 (en : Int), .int .i64 eK, .int .i64 eA, .int .i64 eB, .int .i64 eU, .int .i64 eG, .string ep, .string eq, .slice da es.length dc] 36)) := (Below.refl _ _).alloc (Nat.le_refl _) _
      have kA : Blk (wr.alloc (.cells #[.int .i64 (en : Int), .int .i64 eK, .int .i64 eA, .int .i64 eB, .int .i64 eU, .int .i64 eG, .string ep, .string eq, .slice da es.length dc] 36)) wr.heap.size #[.int .i64 (en : Int), .int .i64 eK, .int .i64 eA, .int .i64 eB, .int .i64 eU, .int .i64 eG, .string ep, .string eq, .slice da es.length dc] 36 := Blk.new wr _ _
      have k0 : (wr.alloc (.cells #[.int .i64 (en : Int), .int .i64 eK, .int .i64 eA, .int .i64 eB, .int .i64 eU, .int .i64 eG, .string ep, .string eq, .slice da es.length dc] 36)).cell? ⟨wr.heap.size, 0, none⟩ = some (.int .i64 (en : Int)) := (kA.cell 0).trans rfl
      have HA := hide (And.intro bA (And.intro kA (And.intro hux (And.intro hrow hI.old.size))))
      clear hrg hRd bA kA hle hrd he hus hux hrow hI hkl
      by_cases hgt : u < (en : Int)
      · have hgt' : (en : Int) > u := hgt
        go_wp2_with (first | (refine wpList_load_mid rfl 36 _ rfl gb (off + k * 9) rfl [.int .i64 (en : Int), .int .i64 eK, .int .i64 eA, .int .i64 eB, .int .i64 eU, .int .i64 eG, .string ep, .string eq, .slice da es.length dc] _ HRg.out Try.underlying36 rfl infoLE ?_) | (refine wpList_load_row rfl 36 _ rfl wr.heap.size rfl 36 #[.int .i64 (en : Int), .int .i64 eK, .int .i64 eA, .int .i64 eB, .int .i64 eU, .int .i64 eG, .string ep, .string eq, .slice da es.length dc] (0, 0) _ HA.out.2.1 Try.underlying36 rfl infoLE ?_) | (at_builtin; refine wpList_append_own_at _ rfl (.tmp 20) (.tmp 22) 28 rfl w.heap.size 36 i0 (.agg #[.int .i64 0, .int .i64 0, .int .i64 0, .int .i64 0, .int .i64 0, .int .i64 0, .string ⟨#[]⟩, .string ⟨#[]⟩, .slice none 0 0]) 9 104 Try.underlying28 hi hz0 hz1 hz2 rfl (by decide) (.slice la kl lc) kl _ rfl ((HA.out.2.2.2.1.alloc _).alloc _) ⟨wr.heap.size + 1, 0, none⟩ 1 1 [.int .i64 (en : Int), .int .i64 eK, .int .i64 eA, .int .i64 eB, .int .i64 eU, .int .i64 eG, .string ep, .string eq, .slice da es.length dc] rfl rfl ?_ (oneE _ _ _ _ _ _ _ _ _ _ _) (by unfold maxLen; omega) (by omega) (by have := HA.out.2.2.2.2; simp; omega) ?_; (have hn := newL (wr.alloc (.cells #[.int .i64 (en : Int), .int .i64 eK, .int .i64 eA, .int .i64 eB, .int .i64 eU, .int .i64 eG, .string ep, .string eq, .slice da es.length dc] 36)) [.int .i64 (en : Int), .int .i64 eK, .int .i64 eA, .int .i64 eB, .int .i64 eU, .int .i64 eG, .string ep, .string eq, .slice da es.length dc] 36; rw [World.size_alloc] at hn; exact hn); intro v4 w4 o4 g4 _ a4; have H4 := hide (And.intro o4 (And.intro g4 a4)); clear o4 g4 a4) | fail)
        go_roundw
        case rel => exact ⟨k + 1, _, by omega, by go_num, HI.out.push HE.out hgt (HA.out.1.trans (((Below.refl _ _).alloc (Nat.le_refl _) _).mono HA.out.1.size)) HA.out.2.2.1 (by rw [← HKl.out]; exact H4.out.1) H4.out.2.1 H4.out.2.2⟩
        case measure => simp [intOf]; omega
      · have hgt' : ¬ (en : Int) > u := hgt
        go_wp2_with (first | (refine wpList_load_mid rfl 36 _ rfl gb (off + k * 9) rfl [.int .i64 (en : Int), .int .i64 eK, .int .i64 eA, .int .i64 eB, .int .i64 eU, .int .i64 eG, .string ep, .string eq, .slice da es.length dc] _ HRg.out Try.underlying36 rfl infoLE ?_) | fail)
        go_roundw
        case rel => exact ⟨k + 1, _, by omega, by go_num, HI.out.skip HE.out hgt HA.out.1⟩
        case measure => simp [intOf]; omega
    · have ek : k = L.length := by omega
      subst ek
      obtain ⟨la, lc, hlf⟩ := own_shape hI.row
      have hrd := hI.rd
      have HI := hide (And.intro hI.old hI.old.size)
      rw [List.take_length] at hrd hlf
      have HR := hide hrd
      obtain ⟨kl, hkl⟩ : ∃ kl, kl = (keepL u L).length := ⟨_, rfl⟩
      rw [← hkl] at hlf
      subst hlf
      clear hI hrd hkl
      go_wp2_with (go_at_call 16; fail)
      refine (l11Log_any _ (keepL u L) us wr HR.out (fun e he => ⟨HG.out.2.2.oks e (List.mem_filter.1 he).1, HG.out.2.2.bds HG.out.2.1 e ((List.mem_filter.1 he).1)⟩) ?_).mono ?_
      · have h1 := keepB_len u L
        have h2 := HG.out.2.2.tot
        exact Nat.le_trans h1 (by omega)
      rintro e w3 ⟨v3, rfl, o3, b3⟩
      have H3 := hide (And.intro (own_mono o3 HI.out.2) (HI.out.1.trans (b3.mono HI.out.2)))
      clear o3 b3
      go_wp2
      go_ret
      exact ⟨_, rfl, H3.out.1, H3.out.2⟩
end Go.Proofs.Ythkoflpcinbgeaa
