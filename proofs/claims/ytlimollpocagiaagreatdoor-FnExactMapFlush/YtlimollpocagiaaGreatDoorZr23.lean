/- A data block of a map: the program's partOf. Slices of structs whose last field is a slice of bytes: what they read as, and what owns them. -/
import Derived.Test.YtlimollpocagiaaGreatDoorZr04
import Derived.Test.YtlimollpocagiaaGreatDoorZr19
import Derived.Test.YtlimollpocagiaaGreatDoorZr22
import Derived.Deep.RegionHeld3
import Derived.Deep.MidRow
import Derived.Laws.CopyOwn
import Derived.Laws.CopyRow
import Derived.Test.YtlimollpocagiaaGreatDoorZr03
import Derived.Test.YtlimollpocagiaaGreatDoorZr09
import Derived.Test.YtlimollpocagiaaGreatDoorZr06
namespace Go.Proofs.YtlimollpocagiaaGreatDoor
set_option linter.unusedVariables false
set_option linter.unusedSimpArgs false
open Go.RowKit

set_option maxRecDepth 100000 in
theorem slice_pieceI {w0 : World} {a : Option Addr} {len cap : Nat} {zs : List Int} (h : Rd .i64 w0 (.slice a len cap) zs) (lo : Nat) (h2 : lo ≤ zs.length) :
    ∃ a' c', Rd .i64 w0 (.slice a' (zs.length - lo) c') (zs.drop lo) ∧ ∀ wx, (Instr.slice 29 (.slice a len cap) (some (.int .i64 (lo : Int))) none none).run Tryz.prog wx = .ok (.slice a' (zs.length - lo) c') wx := by
  obtain ⟨i0, hi0, hz0, hz1, hz2⟩ := info_parts infoI64
  obtain ⟨a0, cap0, e, hm, hc, hl, hcm⟩ := h
  injection e with e1 e2 e3
  subst e1 e2 e3
  have hlen : (zs.drop lo).length = zs.length - lo := List.length_drop
  have hrun : ∀ wx, (Instr.slice 29 (.slice a zs.length cap) (some (.int .i64 (lo : Int))) none none).run Tryz.prog wx = .ok (sliced a lo zs.length cap 1) wx := fun wx => by
    rw [run_slice_l (P := Tryz.prog) (w := wx) 29 a zs.length cap (by rw [Tryz.underlying29]; rfl) .i64 (lo : Int) (by omega) (by omega)]
    simp [sizeOf, typeInfo, show Tryz.prog.elem 29 = 3 from by kernel_rfl, hi0, hz1, Result.andThen]
  refine ⟨_, _, ?_, hrun⟩
  refine ⟨_, _, by rw [hlen], by omega, fun hne => ?_, by rw [hlen]; omega, by omega⟩
  have hp : lo < zs.length := by
    rcases Nat.lt_or_ge lo zs.length with h | h
    · exact h
    · exact absurd (by rw [List.drop_eq_nil_of_le h]) hne
  obtain ⟨b, off, rfl, hb, hcell⟩ := hc (fun e => by rw [e] at hp; simp at hp)
  refine ⟨b, off + lo, ?_, hb, fun i hi2 => ?_⟩
  · rw [if_neg (by omega), Option.map_some, Nat.mul_one, Addr.add_mid]
  · rw [hlen] at hi2
    rw [Nat.add_assoc, hcell (lo + i) (by omega)]
    simp [List.getD, List.getElem?_eq_getElem (show lo + i < zs.length by omega)]
theorem wrapM (z : Int) (h0 : 0 ≤ z) (h1 : z ≤ 100000000) : IntKind.i64.wrap z = z := by rw [IntKind.wrap_i64]; omega
theorem partW_len (ws : List Int) (k : Nat) : (partW ws k).length = 128 := by simp [partW]
theorem partW_splice (ws : List Int) (k : Nat) : splice ((List.replicate 128 (0 : Int)).map (Value.int .i64)) 0 (((ws.drop (128 * k)).take 128).map (Value.int .i64)) = (partW ws k).map (Value.int .i64) := by
  apply List.ext_getElem?
  intro i
  unfold splice partW
  rw [List.take_zero, List.nil_append, List.length_map, Nat.zero_add, List.map_map]
  rcases Nat.lt_or_ge i ((ws.drop (128 * k)).take 128).length with h | h
  · rw [List.getElem?_append_left (by simpa using h)]
    rw [List.length_take, List.length_drop] at h
    rw [List.getElem?_map, List.getElem?_take, if_pos (by omega), List.getElem?_drop, List.getElem?_map, List.getElem?_range (by omega)]
    simp [List.getD, List.getElem?_eq_getElem (show 128 * k + i < ws.length by omega)]
  · rw [List.getElem?_append_right (by simpa using h), List.length_map, List.getElem?_drop]
    rw [List.length_take, List.length_drop] at h ⊢
    rcases Nat.lt_or_ge i 128 with h1 | h1
    · rw [List.getElem?_map, List.getElem?_replicate, if_pos (by omega), List.getElem?_map, List.getElem?_range h1]
      simp [List.getD, List.getElem?_eq_none (show ws.length ≤ 128 * k + i by omega)]
    · rw [List.getElem?_eq_none (by simp; omega), List.getElem?_eq_none (by simp; omega)]
set_option maxRecDepth 100000 in
set_option maxHeartbeats 4000000 in
theorem partOf_any (a : Option Addr) (n c k : Nat) (ws : List Int) (w : World) (h : Rd .i64 w (.slice a n c) ws) (hn : n = ws.length) (hk : 128 * k < n) (hn2 : n ≤ 2048) :
    Calls Tryz.prog 69 #[.slice a n c, .int .i64 (k : Int)] w fun e w' => e = .returned (.agg ((partW ws k).map (Value.int .i64)).toArray) ∧ Below w.heap.size w w' := by
  obtain ⟨Z, hZ, hAl⟩ := letBwZ
  have HAl := hide hAl
  have hZs : Z.size = 128 := by rw [hZ]; simp
  obtain ⟨W2, hW2⟩ : ∃ W2, W2 = (w.alloc (.cells Z 127)).alloc (.cells Z 127) := ⟨_, rfl⟩
  have B2 := hide (show Below w.heap.size w W2 from by rw [hW2]; exact ((Below.refl _ _).alloc (Nat.le_refl _) _).alloc (by simp) _)
  have K2 := hide (show Blk W2 w.heap.size Z 127 from by rw [hW2]; exact (Blk.new w _ _).alloc _)
  have Z2 := hide (show Blk W2 (w.heap.size + 1) ((List.replicate 128 (0 : Int)).map (Value.int .i64)).toArray 127 from by have h := Blk.new (w.alloc (.cells Z 127)) Z 127; rw [World.size_alloc] at h; rw [hW2, ← hZ]; exact h)
  obtain ⟨sa, sc, hsr, hsl⟩ := slice_pieceI h (128 * k) (by omega)
  rw [← hn] at hsr hsl
  obtain ⟨b2, off2, c2, hsv, hb2, _, _, hcell⟩ := hsr.partsC (by rw [List.length_drop]; omega)
  injection hsv with e1 e2 e3
  subst e1
  subst e3
  clear e2
  have hkI : (k : Int) * 128 < 2048 := by omega
  have hsl2 : ∀ (wx : World), (Instr.slice 29 (.slice a n c) (some (.int .i64 ((k : Int) * 128))) none none).run Tryz.prog wx = .ok (.slice (some ⟨b2, off2, none⟩) (n - 128 * k) sc) wx := fun wx => by
    have := hsl wx
    rw [show ((128 * k : Nat) : Int) = (k : Int) * 128 by omega] at this
    exact this
  have HC := hide (show ∀ j u, (((ws.drop (128 * k)).take 128).map (Value.int .i64))[j]? = some u → W2.drew.cell? ((⟨b2, off2, none⟩ : Addr).add j) = some u from fun j u hj => by
    have hj8 : j < ((ws.drop (128 * k)).take 128).length := by
      rcases Nat.lt_or_ge j ((ws.drop (128 * k)).take 128).length with h | h
      · exact h
      · rw [List.getElem?_eq_none (by simpa using h)] at hj; cases hj
    rw [List.length_take] at hj8
    rw [Addr.add_mid]
    refine ((B2.out.drew).cell (p := ⟨b2, off2 + j, none⟩) hb2).trans ?_
    rw [hcell j (by omega)]
    rw [List.getElem?_map, List.getElem?_take, if_pos (by omega), List.getElem?_eq_getElem (by omega)] at hj
    rw [← Option.some.inj hj]
    simp only [List.getD, List.getElem?_eq_getElem (show j < (ws.drop (128 * k)).length by omega), Option.getD_some])
  have HLc := hide (show (((ws.drop (128 * k)).take 128).map (Value.int .i64)).length = Nat.min (n - 128 * k) 128 from by rw [List.length_map, List.length_take, List.length_drop, hn]; exact Nat.min_comm _ _)
  have HW2 := hide hW2
  have HZS := hide hZs
  clear hW2 h hsr hcell hsl hn hZ hAl hb2 hZs
  go_enter Tryz.func69, Tryz.ntmps69
  go_upto_region 2 with (first
    | (refine Great.wpList_allocTo rfl (some 4) rfl (.pointer (some ⟨w.heap.size, 0, none⟩)) (.cells Z 127) (by have e := HAl.out; exact e _ _ _ rfl) ?_)
    | (refine Great.wpList_allocTo rfl (some 5) rfl (.pointer (some ⟨w.heap.size + 1, 0, none⟩)) (.cells Z 127) (by have e := HAl.out; rw [show w.heap.size + 1 = (w.alloc (.cells Z 127)).heap.size by simp]; exact e _ _ _ rfl) ?_))
  rw [← HW2.out]
  refine wp_region_noPanic ?_
  refine wp_region_held_drew (S := fun w' => True) (by kernel_rfl) trivial (fun hH => ?_)
  refine wpAnyH_take (i := 0) (oi := _) (v := .slice (some ⟨w.heap.size + 1, 0, none⟩) 128 128) rfl (by kernel_rfl) (by kernel_rfl) (by kernel_rfl) (fun _ _ _ h => h) (Or.inl ⟨by rfl, fun w' hw' => by go_simp⟩) hH ?_
  try simp only [Act.put, List.getElem_toArray, List.getElem_cons_zero, List.getElem_cons_succ, List.setIfInBounds_toArray, List.set_cons_zero, List.set_cons_succ]
  refine wpAnyH_take (i := 1) (oi := _) (v := .slice a n c) rfl (by kernel_rfl) (by kernel_rfl) (by kernel_rfl) (fun _ _ _ h => h) (Or.inl ⟨by rfl, fun w' hw' => by go_simp⟩) hH ?_
  try simp only [Act.put, List.getElem_toArray, List.getElem_cons_zero, List.getElem_cons_succ, List.setIfInBounds_toArray, List.set_cons_zero, List.set_cons_succ]
  refine wpAnyH_take (i := 2) (oi := _) (v := .int .i64 (k : Int)) rfl (by kernel_rfl) (by kernel_rfl) (by kernel_rfl) (fun _ _ _ h => h) (Or.inl ⟨by rfl, fun w' hw' => by go_simp⟩) hH ?_
  try simp only [Act.put, List.getElem_toArray, List.getElem_cons_zero, List.getElem_cons_succ, List.setIfInBounds_toArray, List.set_cons_zero, List.set_cons_succ]
  refine wpAnyH_take (i := 3) (oi := _) (v := .int .i64 ((k : Int) * 128)) rfl (by kernel_rfl) (by kernel_rfl) (by kernel_rfl) (fun _ _ _ h => h) (Or.inl ⟨by rfl, fun w' hw' => by have hw6 := wrapM ((k : Int) * 128) (by omega) (by omega); go_simp⟩) hH ?_
  try simp only [Act.put, List.getElem_toArray, List.getElem_cons_zero, List.getElem_cons_succ, List.setIfInBounds_toArray, List.set_cons_zero, List.set_cons_succ]
  refine wpAnyH_take (i := 4) (oi := _) (v := .slice (some ⟨b2, off2, none⟩) (n - 128 * k) sc) rfl (by kernel_rfl) (by kernel_rfl) (by kernel_rfl) (fun _ _ _ h => h) (Or.inl ⟨by rfl, fun w' hw' => by go_simp⟩) hH ?_
  try simp only [Act.put, List.getElem_toArray, List.getElem_cons_zero, List.getElem_cons_succ, List.setIfInBounds_toArray, List.set_cons_zero, List.set_cons_succ]
  refine wpAnyH_ready (rs := [5]) (by kernel_rfl) (by simp) ?_
  refine AllReadyH.cons (o := _) rfl ?_ AllReadyH.nil
  intro K hK
  refine step_copy_splice rfl (.tmp 6) (.tmp 10) 29 29 rfl 3 Tryz.underlying29 (by kernel_rfl) (some ⟨w.heap.size + 1, 0, none⟩) (some ⟨b2, off2, none⟩) 128 128 (n - 128 * k) sc rfl rfl (w.heap.size + 1) 0 ((List.replicate 128 (0 : Int)).map (Value.int .i64)) 127 (show _ from Z2.out) (((ws.drop (128 * k)).take 128).map (Value.int .i64)) HLc.out (fun hp => ⟨rfl, _, rfl, HC.out⟩) (by rw [HLc.out, List.length_map, List.length_replicate, Nat.zero_add]; exact Nat.min_le_right _ _) (fun u hu => by obtain ⟨z, _, rfl⟩ := List.mem_map.1 hu; rfl) (w.heap.size + 1) W2.drew ((Below.refl _ _)) (Nat.le_refl _) ?_
  intro w9 hg9 hb9
  obtain ⟨A, hA⟩ : ∃ A, A = ((partW ws k).map (Value.int .i64)).toArray := ⟨_, rfl⟩
  have K9 := hide (show Blk w9 (w.heap.size + 1) A 127 from by rw [hA, ← partW_splice]; exact hg9.out)
  have B9 := hide (show Below (w.heap.size + 1) W2 w9 from (Below.refl _ _).drew.trans hb9)
  have HA := hide hA
  clear hg9 hb9 hA
  refine hK.out _ _ trivial (fun hH => ?_)
  clear hK K
  try simp only [Act.put, List.getElem_toArray, List.getElem_cons_zero, List.getElem_cons_succ, List.setIfInBounds_toArray, List.set_cons_zero, List.set_cons_succ]
  refine wpAnyH_done (by kernel_rfl) (NoPanic.normal ?_) _
  clear hH
  have HAs := hide (show A.size = 128 from by rw [HA.out]; simp [partW])
  have HO := hide (show A.all (·.oneCell') = true from by rw [HA.out]; exact i64_one _)
  have HIn := hide (show (Tryz.prog.info? 127).map (·.size) = some A.size from by rw [HAs.out]; exact infoBw)
  have K8 := hide (K2.out.below B9.out (by omega))
  have B8 := hide (show Below w.heap.size w w9 from B2.out.trans (B9.out.mono (by omega)))
  go_wp2_with (first
    | (refine wpList_load_row rfl 127 _ rfl (w.heap.size + 1) rfl 127 A (0, 0) _ K9.out Tryz.underlying127 rfl HIn.out ?_)
    | (refine wpList_store_row rfl 127 _ _ rfl w.heap.size A rfl rfl 127 Z K8.out HIn.out (by rw [HAs.out, HZS.out]) HO.out ?_))
  refine bodyPost_ret (v := .agg A) ?_ rfl ⟨by rw [HA.out], below_setRow B8.out (Nat.le_refl _) _⟩
  exact results_cell_row rfl _ _ w.heap.size 127 _ (0, 0) _ rfl (K8.out.row _) Tryz.underlying127 rfl HIn.out
end Go.Proofs.YtlimollpocagiaaGreatDoor

namespace Go.Proofs.YtlimollpocagiaaGreatDoor
set_option linter.unusedVariables false
set_option linter.unusedSimpArgs false
open Go.RowKit

/-- An element: its fields of one cell each, and the bytes of its last field. -/
abbrev NE := List Value × List Int
/-- The cells of a list of elements; vs: the slices of their bytes. -/
def cellsN : List Value → List NE → List Value
  | v :: vs, l :: L => l.1 ++ ([v] ++ cellsN vs L)
  | _, _ => []
theorem cellsN_append : ∀ (vs : List Value) (L : List NE) (us : List Value) (M : List NE), vs.length = L.length → cellsN (vs ++ us) (L ++ M) = cellsN vs L ++ cellsN us M
  | [], [], us, M, _ => by simp [cellsN]
  | [], _ :: _, _, _, h => by simp at h
  | _ :: _, [], _, _, h => by simp at h
  | v :: vs, l :: L, us, M, h => by
    rw [List.cons_append, List.cons_append, cellsN, cellsN, cellsN_append vs L us M (by simpa using h)]
    simp [List.append_assoc]
theorem cellsN_get (m : Nat) : ∀ (vs : List Value) (L : List NE), vs.length = L.length → (∀ l ∈ L, l.1.length = m) → ∀ i j v l, vs[i]? = some v → L[i]? = some l → j < m + 1 → (cellsN vs L)[i * (m + 1) + j]? = (l.1 ++ [v])[j]?
  | [], [], _, _, i, j, v, l, h, _, _ => by simp at h
  | [], _ :: _, h, _, _, _, _, _, _, _, _ => by simp at h
  | _ :: _, [], h, _, _, _, _, _, _, _, _ => by simp at h
  | v0 :: vs, l0 :: L, h, hp, i, j, v, l, hv, hl, hj => by
    have h1 := hp l0 (by simp)
    rw [cellsN, ← List.append_assoc]
    cases i with
    | zero =>
      simp at hv hl
      subst hv
      subst hl
      rw [Nat.zero_mul, Nat.zero_add, List.getElem?_append_left (by simp [h1]; omega)]
    | succ i =>
      have h2 := cellsN_get m vs L (by simpa using h) (fun x hx => hp x (by simp [hx])) i j v l (by simpa using hv) (by simpa using hl) hj
      have e : (i + 1) * (m + 1) + j = (m + 1) + (i * (m + 1) + j) := by rw [Nat.add_mul]; omega
      rw [e, List.getElem?_append_right (by simp [h1]), show (l0.1 ++ [v0]).length = m + 1 by simp [h1], Nat.add_sub_cancel_left]
      exact h2
theorem cellsN_data : ∀ (vs : List Value) (L : List NE) (i : Nat) (l : NE) (zs : List Int), L[i]? = some l → cellsN vs (L.set i (l.1, zs)) = cellsN vs L
  | [], L, i, l, zs, h => by cases hL : L.set i (l.1, zs) <;> simp [cellsN]
  | v :: vs, [], i, l, zs, h => by simp at h
  | v :: vs, l0 :: L, 0, l, zs, h => by
    simp at h
    subst h
    simp [cellsN]
  | v :: vs, l0 :: L, i + 1, l, zs, h => by
    simp only [List.set_cons_succ, cellsN]
    rw [cellsN_data vs L i l zs (by simpa using h)]
theorem cellsN_pre (m : Nat) : ∀ (vs : List Value) (L : List NE), vs.length = L.length → (∀ l ∈ L, l.1.length = m) → ∀ i j l u, L[i]? = some l → j < m → (cellsN vs L).set (i * (m + 1) + j) u = cellsN vs (L.set i (l.1.set j u, l.2))
  | [], [], _, _, i, j, l, u, h, _ => by simp at h
  | [], _ :: _, h, _, _, _, _, _, _, _ => by simp at h
  | _ :: _, [], h, _, _, _, _, _, _, _ => by simp at h
  | v0 :: vs, l0 :: L, h, hp, i, j, l, u, hl, hj => by
    have h1 := hp l0 (by simp)
    cases i with
    | zero =>
      simp at hl
      subst hl
      simp only [List.set_cons_zero, cellsN, Nat.zero_mul, Nat.zero_add]
      rw [List.set_append_left _ _ (by omega)]
    | succ i =>
      have h2 := cellsN_pre m vs L (by simpa using h) (fun x hx => hp x (by simp [hx])) i j l u (by simpa using hl) hj
      have e : (i + 1) * (m + 1) + j = (m + 1) + (i * (m + 1) + j) := by rw [Nat.add_mul]; omega
      simp only [List.set_cons_succ, cellsN]
      rw [← List.append_assoc, ← List.append_assoc, e, List.set_append_right _ _ (by simp [h1]), show (l0.1 ++ [v0]).length = m + 1 by simp [h1], Nat.add_sub_cancel_left, h2]
theorem cellsN_last (m : Nat) : ∀ (vs : List Value) (L : List NE), vs.length = L.length → (∀ l ∈ L, l.1.length = m) → ∀ i v, i < L.length → (cellsN vs L).set (i * (m + 1) + m) v = cellsN (vs.set i v) L
  | [], [], _, _, i, v, h => by simp at h
  | [], _ :: _, h, _, _, _, _ => by simp at h
  | _ :: _, [], h, _, _, _, _ => by simp at h
  | v0 :: vs, l0 :: L, h, hp, i, v, hi => by
    have h1 := hp l0 (by simp)
    cases i with
    | zero =>
      simp only [List.set_cons_zero, cellsN, Nat.zero_mul, Nat.zero_add]
      rw [List.set_append_right _ _ (by omega), h1, Nat.sub_self]
      rfl
    | succ i =>
      have h2 := cellsN_last m vs L (by simpa using h) (fun x hx => hp x (by simp [hx])) i v (by simpa using hi)
      have e : (i + 1) * (m + 1) + m = (m + 1) + (i * (m + 1) + m) := by rw [Nat.add_mul]; omega
      simp only [List.set_cons_succ, cellsN]
      rw [← List.append_assoc, ← List.append_assoc, e, List.set_append_right _ _ (by simp [h1]), show (l0.1 ++ [v0]).length = m + 1 by simp [h1], Nat.add_sub_cancel_left, h2]

/-- The slice value v reads in W as the list L; vs: the slices of its elements. -/
structure RdN (W : World) (m : Nat) (v : Value) (L : List NE) (vs : List Value) : Prop where
  len : vs.length = L.length
  pre : ∀ l ∈ L, l.1.length = m
  row : ∃ a cap, v = .slice a L.length cap ∧ (0 < L.length → ∃ b off, a = some ⟨b, off, none⟩ ∧ b < W.heap.size ∧ ∀ (j : Nat) (u : Value), (cellsN vs L)[j]? = some u → W.cell? ⟨b, off + j, none⟩ = some u) ∧ L.length ≤ cap ∧ cap ≤ maxLen
  dat : ∀ (i : Nat) (u : Value) (l : NE), vs[i]? = some u → L[i]? = some l → Rd .u8 W u l.2
theorem RdN.below {W W' : World} {m : Nat} {v : Value} {L : List NE} {vs : List Value} (h : RdN W m v L vs) (hb : Below W.heap.size W W') : RdN W' m v L vs := by
  obtain ⟨a, cap, e, hc, h1, h2⟩ := h.row
  refine ⟨h.len, h.pre, ⟨a, cap, e, fun hn => ?_, h1, h2⟩, fun i u l hu hl => (h.dat i u l hu hl).below hb⟩
  obtain ⟨b, off, rfl, hlt, hcell⟩ := hc hn
  exact ⟨b, off, rfl, Nat.lt_of_lt_of_le hlt hb.size, fun j u hu => (hb.cell (p := ⟨b, off + j, none⟩) hlt).trans (hcell j u hu)⟩
/-- Row and bytes are the call's own, each in a block of its own. -/
structure OwnN (W : World) (base : Nat) (e : TypeId) (m : Nat) (v : Value) (L : List NE) (vs : List Value) : Prop where
  len : vs.length = L.length
  pre : ∀ l ∈ L, l.1.length = m
  row : W.ownsRow base e (m + 1) v L.length (cellsN vs L)
  dat : ∀ (i : Nat) (u : Value) (l : NE), vs[i]? = some u → L[i]? = some l → W.ownsRow base 5 1 u l.2.length (l.2.map (Value.int .u8))
  one : ∀ (i j : Nat) (u u' : Value) (b : Nat), vs[i]? = some u → vs[j]? = some u' → u.ownBlock = some b → u'.ownBlock = some b → i = j
theorem OwnN.below {W W' : World} {base : Nat} {e : TypeId} {m : Nat} {v : Value} {L : List NE} {vs : List Value} (h : OwnN W base e m v L vs) (hb : Below W.heap.size W W') : OwnN W' base e m v L vs :=
  ⟨h.len, h.pre, own_below h.row hb, fun i u l hu hl => own_below (h.dat i u l hu hl) hb, h.one⟩
theorem OwnN.mono {W : World} {base base' : Nat} {e : TypeId} {m : Nat} {v : Value} {L : List NE} {vs : List Value} (h : OwnN W base e m v L vs) (hb : base' ≤ base) : OwnN W base' e m v L vs :=
  ⟨h.len, h.pre, own_mono h.row hb, fun i u l hu hl => own_mono (h.dat i u l hu hl) hb, h.one⟩
theorem OwnN.rd {W : World} {base : Nat} {e : TypeId} {m : Nat} {v : Value} {L : List NE} {vs : List Value} (h : OwnN W base e m v L vs) : RdN W m v L vs := by
  refine ⟨h.len, h.pre, ?_, fun i u l hu hl => Rd.own (h.dat i u l hu hl)⟩
  have hrow := h.row
  rcases h.row.2 with ⟨rfl, h0⟩ | ⟨g, cap, cur, rfl, hb, hg, h1, h2, h3, h4⟩
  · exact ⟨none, 0, by rw [h0], fun hn => by omega, by omega, by unfold maxLen; omega⟩
  · refine ⟨some ⟨g, 0, none⟩, cap, rfl, fun _ => ⟨g, 0, rfl, (hrow.lt g rfl).2, fun j u hu => ?_⟩, h1, h2⟩
    have := hrow.cells (g := g) rfl j u hu
    rw [Addr.add_mid] at this
    exact this
/-- Two rows of different kinds of elements lie in different blocks. -/
theorem own_apart {W : World} {base base' : Nat} {e e' : TypeId} {size size' : Nat} {v v' : Value} {n n' : Nat} {xs xs' : List Value} (h : W.ownsRow base e size v n xs) (h' : W.ownsRow base' e' size' v' n' xs') (he : e ≠ e') : v.ownBlock = none ∨ v.ownBlock ≠ v'.ownBlock := by
  rcases h.2 with ⟨rfl, _⟩ | ⟨g, cap, cur, rfl, _, hg, _⟩
  · exact .inl rfl
  · right
    intro hq
    rcases h'.2 with ⟨rfl, _⟩ | ⟨g', cap', cur', rfl, _, hg', _⟩
    · cases hq
    · obtain rfl : g = g' := Option.some.inj hq
      rw [hg] at hg'
      injection hg' with hg'
      injection hg' with _ h2
      exact he h2
theorem OwnN.nil (W : World) (base : Nat) (e : TypeId) (m : Nat) : OwnN W base e m (.slice none 0 0) [] [] :=
  ⟨rfl, fun l h => (by cases h), ⟨by simp [cellsN], .inl ⟨rfl, rfl⟩⟩, fun i u l h => (by simp at h), fun i j u u' b h => (by simp at h)⟩
/-- One more element, whose bytes lie in memory that came later than all of the others. -/
theorem OwnN.push {W W' : World} {base : Nat} {e : TypeId} {m : Nat} {v v' : Value} {L : List NE} {vs : List Value} (h : OwnN W base e m v L vs) (he : e ≠ 5) (l : NE) (u : Value) (hl : l.1.length = m) (hu : W.ownsRow base 5 1 u l.2.length (l.2.map (Value.int .u8)))
    (hnew : ∀ (i : Nat) (u' : Value) (b : Nat), vs[i]? = some u' → u'.ownBlock = some b → u.ownBlock ≠ some b)
    (ho : W'.ownsRow base e (m + 1) v' (L.length + 1) (cellsN vs L ++ (l.1 ++ [u]))) (hg : W.grownBy W' v.ownBlock) : OwnN W' base e m v' (L ++ [l]) (vs ++ [u]) := by
  have kept : ∀ (x : Value) (n : Nat) (xs : List Value), W.ownsRow base 5 1 x n xs → W'.ownsRow base 5 1 x n xs := fun x n xs hx => hx.kept hg (own_apart hx h.row (Ne.symm he))
  refine ⟨by simp [h.len], fun x hx => ?_, ?_, fun i x y hx hy => ?_, fun i j x x' b hx hx' hb hb' => ?_⟩
  · rw [List.mem_append, List.mem_singleton] at hx
    rcases hx with hx | rfl
    · exact h.pre x hx
    · exact hl
  · rw [cellsN_append vs L [u] [l] h.len]
    simpa [cellsN] using ho
  · by_cases hi : i < L.length
    · rw [List.getElem?_append_left (by rw [h.len]; exact hi)] at hx
      rw [List.getElem?_append_left hi] at hy
      exact kept _ _ _ (h.dat i x y hx hy)
    · have hi2 : i = L.length := by
        have := (List.getElem?_eq_some_iff.1 hy).1
        simp at this
        omega
      subst hi2
      rw [List.getElem?_append_right (Nat.le_refl _), Nat.sub_self] at hy
      rw [← h.len, List.getElem?_append_right (Nat.le_refl _), Nat.sub_self] at hx
      simp at hx hy
      subst hx
      subst hy
      exact kept _ _ _ hu
  · have hcase : ∀ (k : Nat) (y : Value), (vs ++ [u])[k]? = some y → (k < vs.length ∧ vs[k]? = some y) ∨ (k = vs.length ∧ y = u) := fun k y hk => by
      by_cases hk2 : k < vs.length
      · rw [List.getElem?_append_left hk2] at hk; exact .inl ⟨hk2, hk⟩
      · have hk3 : k = vs.length := by
          have := (List.getElem?_eq_some_iff.1 hk).1
          simp at this
          omega
        subst hk3
        rw [List.getElem?_append_right (Nat.le_refl _), Nat.sub_self] at hk
        simp at hk
        exact .inr ⟨rfl, hk.symm⟩
    rcases hcase i x hx with ⟨hi, hy⟩ | ⟨hi, hy⟩
    · rcases hcase j x' hx' with ⟨hj, hy'⟩ | ⟨hj, hy'⟩
      · exact h.one i j x x' b hy hy' hb hb'
      · rw [hy'] at hb'
        exact absurd hb' (hnew i x b hy hb)
    · rcases hcase j x' hx' with ⟨hj, hy'⟩ | ⟨hj, hy'⟩
      · rw [hy] at hb
        exact absurd hb (hnew j x' b hy' hb')
      · omega
/-- The bytes of element i turned, nothing else. -/
theorem OwnN.data {W W' : World} {base : Nat} {e : TypeId} {m : Nat} {v : Value} {L : List NE} {vs : List Value} (h : OwnN W base e m v L vs) (he : e ≠ 5) (i : Nat) (u : Value) (l : NE) (zs : List Int) (hu : vs[i]? = some u) (hl : L[i]? = some l)
    (ho : W'.ownsRow base 5 1 u zs.length (zs.map (Value.int .u8))) (hg : W.grownBy W' u.ownBlock) : OwnN W' base e m v (L.set i (l.1, zs)) vs := by
  have hdi := h.dat i u l hu hl
  refine ⟨by simp [h.len], fun x hx => ?_, ?_, fun j x y hx hy => ?_, h.one⟩
  · rcases List.mem_or_eq_of_mem_set hx with hx | rfl
    · exact h.pre x hx
    · exact h.pre l (List.mem_of_getElem? hl)
  · rw [List.length_set, cellsN_data vs L i l zs hl]
    exact h.row.kept hg (own_apart h.row hdi he)
  · by_cases hij : i = j
    · subst hij
      rw [hu] at hx
      cases hx
      rw [List.getElem?_set_self (List.getElem?_eq_some_iff.1 hl).1] at hy
      cases hy
      exact ho
    · rw [List.getElem?_set_ne hij] at hy
      refine (h.dat j x y hx hy).kept hg ?_
      cases hb : x.ownBlock with
      | none => exact .inl rfl
      | some b => exact .inr (fun e => hij (h.one i j u x b hu hx e.symm hb))
/-- A field of element i turned, nothing else. -/
theorem OwnN.field {W : World} {base g : Nat} {e : TypeId} {m : Nat} {v : Value} {L : List NE} {vs : List Value} (h : OwnN W base e m v L vs) (he : e ≠ 5) (i j : Nat) (l : NE) (x : Value) (hl : L[i]? = some l) (hj : j < m) (hv : v.ownBlock = some g) : OwnN (W.setCell ⟨g, i * (m + 1) + j, none⟩ x) base e m v (L.set i (l.1.set j x, l.2)) vs := by
  have hg : W.grownBy (W.setCell ⟨g, i * (m + 1) + j, none⟩ x) v.ownBlock := by
    rw [hv]
    exact ⟨rfl, rfl, rfl, by simp [World.setCell], fun k hk hne => Below.heap_setCell W ⟨g, i * (m + 1) + j, none⟩ x k (fun e => hne (by rw [e]))⟩
  refine ⟨by simp [h.len], fun y hy => ?_, ?_, fun k y z hy hz => ?_, h.one⟩
  · rcases List.mem_or_eq_of_mem_set hy with hy | rfl
    · exact h.pre y hy
    · simpa using h.pre l (List.mem_of_getElem? hl)
  · rw [List.length_set, ← cellsN_pre m vs L h.len h.pre i j l x hl hj]
    rcases h.row.2 with ⟨rfl, _⟩ | ⟨g', cap, cur, rfl, hb, hc, hn, hm, hs, ht⟩
    · cases hv
    · obtain rfl : g' = g := by simpa [Value.ownBlock] using hv
      refine ⟨by rw [List.length_set]; exact h.row.1, .inr ⟨g', cap, cur.setIfInBounds (i * (m + 1) + j) x, rfl, hb, heap_setCell_same W g' _ cur e _ hc, hn, hm, by simpa using hs, ?_⟩⟩
      rw [Array.toList_setIfInBounds, List.take_set, ht]
  · have hd : ∃ z', L[k]? = some z' ∧ z'.2 = z.2 := by
      by_cases hik : i = k
      · subst hik
        rw [List.getElem?_set_self (List.getElem?_eq_some_iff.1 hl).1] at hz
        cases hz
        exact ⟨l, hl, rfl⟩
      · rw [List.getElem?_set_ne hik] at hz
        exact ⟨z, hz, rfl⟩
    obtain ⟨z', h1, h2⟩ := hd
    have := h.dat k y z' hy h1
    rw [h2] at this
    exact this.kept hg (own_apart this h.row (Ne.symm he))
/-- The slice of element i turned to another, with its bytes. -/
theorem OwnN.last {W : World} {base g : Nat} {e : TypeId} {m : Nat} {v : Value} {L : List NE} {vs : List Value} (h : OwnN W base e m v L vs) (he : e ≠ 5) (i : Nat) (l : NE) (u : Value) (zs : List Int) (hl : L[i]? = some l) (hv : v.ownBlock = some g) (hu : W.ownsRow base 5 1 u zs.length (zs.map (Value.int .u8)))
    (hnew : ∀ (j : Nat) (u' : Value) (b : Nat), vs[j]? = some u' → u'.ownBlock = some b → u.ownBlock ≠ some b) : OwnN (W.setCell ⟨g, i * (m + 1) + m, none⟩ u) base e m v (L.set i (l.1, zs)) (vs.set i u) := by
  have hg : W.grownBy (W.setCell ⟨g, i * (m + 1) + m, none⟩ u) v.ownBlock := by
    rw [hv]
    exact ⟨rfl, rfl, rfl, by simp [World.setCell], fun k hk hne => Below.heap_setCell W ⟨g, i * (m + 1) + m, none⟩ u k (fun e => hne (by rw [e]))⟩
  have hi : i < L.length := (List.getElem?_eq_some_iff.1 hl).1
  have kept : ∀ (x : Value) (n : Nat) (xs : List Value), W.ownsRow base 5 1 x n xs → (W.setCell ⟨g, i * (m + 1) + m, none⟩ u).ownsRow base 5 1 x n xs := fun x n xs hx => hx.kept hg (own_apart hx h.row (Ne.symm he))
  have hvs : ∀ (k : Nat) (x : Value), (vs.set i u)[k]? = some x → (k = i ∧ x = u) ∨ (k ≠ i ∧ vs[k]? = some x) := fun k x hx => by
    by_cases hk : i = k
    · subst hk
      rw [List.getElem?_set_self (by rw [h.len]; exact hi)] at hx
      cases hx
      exact .inl ⟨rfl, rfl⟩
    · rw [List.getElem?_set_ne hk] at hx
      exact .inr ⟨fun e => hk e.symm, hx⟩
  refine ⟨by simp [h.len], fun y hy => ?_, ?_, fun k y z hy hz => ?_, fun k j x x' b hx hx' hb hb' => ?_⟩
  · rcases List.mem_or_eq_of_mem_set hy with hy | rfl
    · exact h.pre y hy
    · exact h.pre l (List.mem_of_getElem? hl)
  · rw [List.length_set, cellsN_data _ L i l zs hl, ← cellsN_last m vs L h.len h.pre i u hi]
    rcases h.row.2 with ⟨rfl, _⟩ | ⟨g', cap, cur, rfl, hb, hc, hn, hm, hs, ht⟩
    · cases hv
    · obtain rfl : g' = g := by simpa [Value.ownBlock] using hv
      refine ⟨by rw [List.length_set]; exact h.row.1, .inr ⟨g', cap, cur.setIfInBounds (i * (m + 1) + m) u, rfl, hb, heap_setCell_same W g' _ cur e _ hc, hn, hm, by simpa using hs, ?_⟩⟩
      rw [Array.toList_setIfInBounds, List.take_set, ht]
  · rcases hvs k y hy with ⟨rfl, rfl⟩ | ⟨hk, hy⟩
    · rw [List.getElem?_set_self hi] at hz
      cases hz
      exact kept _ _ _ hu
    · rw [List.getElem?_set_ne (Ne.symm hk)] at hz
      exact kept _ _ _ (h.dat k y z hy hz)
  · rcases hvs k x hx with ⟨h1, h2⟩ | ⟨h1, h2⟩
    · rcases hvs j x' hx' with ⟨h3, h4⟩ | ⟨h3, h4⟩
      · omega
      · rw [h2] at hb
        exact absurd hb (hnew j x' b h4 hb')
    · rcases hvs j x' hx' with ⟨h3, h4⟩ | ⟨h3, h4⟩
      · rw [h4] at hb'
        exact absurd hb' (hnew k x b h2 hb)
      · exact h.one k j x x' b h2 h4 hb hb'
theorem own_shape {w : World} {base : Nat} {e : TypeId} {sz : Nat} {v : Value} {n : Nat} {xs : List Value} (h : w.ownsRow base e sz v n xs) : ∃ a cap, v = .slice a n cap := by
  rcases h.2 with ⟨rfl, rfl⟩ | ⟨g, cap, _, rfl, _⟩
  · exact ⟨_, _, rfl⟩
  · exact ⟨_, _, rfl⟩
theorem rd_shape {k : IntKind} {w : World} {v : Value} {zs : List Int} (h : Rd k w v zs) : ∃ a cap, v = .slice a zs.length cap := by
  obtain ⟨a, cap, e, _⟩ := h
  exact ⟨a, cap, e⟩
/-- The cells of element i, where they lie. -/
theorem RdN.at {W : World} {m : Nat} {a : Option Addr} {cap : Nat} {L : List NE} {vs : List Value} (h : RdN W m (.slice a L.length cap) L vs) {i : Nat} {l : NE} (hl : L[i]? = some l) : ∃ b off u, a = some ⟨b, off, none⟩ ∧ b < W.heap.size ∧ vs[i]? = some u ∧ Rd .u8 W u l.2 ∧ W.rangeAt b (off + i * (m + 1)) (l.1 ++ [u]) := by
  have hi : i < L.length := (List.getElem?_eq_some_iff.1 hl).1
  obtain ⟨a', cap', e, hc, _⟩ := h.row
  injection e with e1 e2 e3
  subst e1
  obtain ⟨b, off, rfl, hb, hcell⟩ := hc (by omega)
  obtain ⟨w0, hu⟩ : ∃ x, vs[i]? = some x := ⟨_, List.getElem?_eq_getElem (by rw [h.len]; exact hi)⟩
  refine ⟨b, off, w0, rfl, hb, hu, h.dat i _ l hu hl, fun j u hj => ?_⟩
  have hjl : j < m + 1 := by
    have := (List.getElem?_eq_some_iff.1 hj).1
    simp [h.pre l (List.mem_of_getElem? hl)] at this
    omega
  have := hcell (i * (m + 1) + j) u ((cellsN_get m vs L h.len h.pre i j _ l hu hl hjl).trans hj)
  rw [← Nat.add_assoc] at this
  exact this
end Go.Proofs.YtlimollpocagiaaGreatDoor
