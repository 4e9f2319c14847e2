/- The program reads a record of a log: readLogged. -/
import Derived.Test.YtohmjfagbhnieaaGreatDoorZl31
namespace Go.Proofs.YtohmjfagbhnieaaGreatDoor
set_option linter.unusedVariables false
set_option linter.unusedSimpArgs false
open Go.RowKit

set_option maxRecDepth 100000 in
set_option maxHeartbeats 8000000 in
theorem readLogged_any (w0 w : World) (b lo0 : Nat) (a : Option Addr) (cap : Nat) (zs : List Int) (pos : Nat) (h : Rdr w0 w b lo0 true (.slice a zs.length cap) zs pos) (hbd : ∀ z ∈ zs, 0 ≤ z ∧ z < 256) (hz : zs.length ≤ 1048576) :
    Calls Tryz.prog 48 #[.pointer (some ⟨b, 0, none⟩)] w fun e w' => ∃ (x : Nat) (K A B U G : Int) (p q : ByteArray) (d rv : Value) (ds : List Int) (ok' : Bool) (p' lo' : Nat),
      e = .returned (.agg (logC (wrap64 (x : Int)) K A B U G p q d rv)) ∧ Rdr w0 w' b lo' ok' (.slice a zs.length cap) zs p' ∧ w.grownBy w' (some b) ∧ w.heap.size ≤ lo' ∧ w'.ownsRow w.heap.size 5 1 d ds.length (ds.map (Value.int .u8)) ∧ RL zs pos ⟨x, K, A, B, U, G, p, q, ds⟩ ok' p' ∧ Rd .u8 w0 rv ((zs.drop pos).take (p' - pos)) := by
  have HB := hide hbd
  have hz2 : zs.length ≤ 140737488355328 := by omega
  have hpl := h.le
  have hat := h.at_
  have hblt := h.ck.lt
  obtain ⟨W2, hW2⟩ : ∃ W2, W2 = (w.alloc (.cells noL 72)).alloc (.cells noL 72) := ⟨_, rfl⟩
  have hs2 : W2.heap.size = w.heap.size + 2 := by rw [hW2]; simp
  have bW2 : Below w.heap.size w W2 := by rw [hW2]; exact ((Below.refl _ w).alloc (Nat.le_refl _) _).alloc (by simp) _
  have G0 := hide (show Rl w0 w W2 b (w.heap.size + 2) (.slice a zs.length cap) zs noL true pos from ⟨(h.below bW2).relo (by omega) (by omega), by rw [hW2]; exact (Blk.new w noL 72).alloc _, by
    rw [hW2]
    have := Blk.new (w.alloc (.cells noL 72)) noL 72
    rwa [World.size_alloc] at this, hblt, by omega, ⟨bW2.os, bW2.tape, bW2.output, bW2.size, fun k hk _ => bW2.block k hk⟩⟩)
  have A0 := hide (show AdvO zs pos true pos from ⟨⟨fun _ => hpl, fun _ => rfl⟩, fun _ => rfl⟩)
  have B2 := hide bW2
  have HW2 := hide (show W2 = (w.alloc (.cells #[.int .i64 0, .int .i64 0, .int .i64 0, .int .i64 0, .int .i64 0, .int .i64 0, .string ⟨#[]⟩, .string ⟨#[]⟩, .slice none 0 0, .slice none 0 0] 72)).alloc (.cells #[.int .i64 0, .int .i64 0, .int .i64 0, .int .i64 0, .int .i64 0, .int .i64 0, .string ⟨#[]⟩, .string ⟨#[]⟩, .slice none 0 0, .slice none 0 0] 72) from hW2)
  have HS2 := hide hs2
  clear hbd h bW2 hW2 hs2
  go_enter Tryz.func48, Tryz.ntmps48
  go_wp2_with (go_at_call 62; fail)
  rw [← HW2.out]
  clear HW2 hat
  refine (number64_any w0 _ b (w.heap.size + 2) true _ zs pos G0.out.rdr hz2 HB.out).mono ?_
  rintro e y0 ⟨x, rfl, hN⟩
  obtain ⟨ok0, p0, r1, a1, v1, g1, hp0, _⟩ := AdvO.numM A0.out hN
  have H1 := hide (G0.out.onward r1 g1)
  have A1 := hide (show AdvO zs (pos + 8) ok0 p0 from a1)
  have V0 := hide (show pos + 8 ≤ zs.length → x = unle ((zs.drop pos).take 8) from fun h => v1 (a1.1.2 h))
  have cC := (H1.out.blk.cell 0).trans (show noL[0]? = some (.int .i64 0) from rfl)
  have fC := H1.out.blk.frozen 0
  have S0 := hide (show Rl w0 w (y0.setCell ⟨w.heap.size + 1, 0, none⟩ (.int .i64 (wrap64 (x : Int)))) b (w.heap.size + 2) _ zs (logC (wrap64 (x : Int)) 0 0 0 0 0 ⟨#[]⟩ ⟨#[]⟩ (.slice none 0 0) (.slice none 0 0)) ok0 p0 from H1.out.put 0 _)
  clear r1 a1 v1 g1 hN H1 G0
  go_wp2_with (go_at_call 63; fail)
  clear cC fC
  refine (number32_any w0 _ b (w.heap.size + 2) ok0 _ zs p0 S0.out.rdr hz2 HB.out).mono ?_
  rintro e y1 ⟨m, rfl, hN⟩
  have hm32 : m < 4294967296 := num_bd HB.out hN
  obtain ⟨ok1, p1, r1, a1, v1, g1, hp1, _⟩ := AdvO.numM A1.out hN
  have S1 := hide (S0.out.onward r1 g1)
  have A2 := hide (show AdvO zs (pos + 12) ok1 p1 from a1)
  have V1 := hide (show pos + 12 ≤ zs.length → m = unle ((zs.drop (pos + 8)).take 4) from fun h => v1 (a1.1.2 h))
  have hpl1 := r1.le
  have cD := r1.data
  have cA := r1.at_
  obtain ⟨ha, hc, hRd, hq⟩ := slice_piece r1.rd pos p1 (by omega) hpl1
  have HH := hide hRd
  have V2 := hide (show pos + 12 ≤ zs.length → (zs.drop pos).take (p1 - pos) = (zs.drop pos).take 12 from fun h => by rw [a1.2 (a1.1.2 h), show pos + 12 - pos = 12 from by omega])
  have HP := hide (And.intro hp0 (And.intro hp1 hpl1))
  clear r1 a1 v1 g1 hN S0 A1 A0 hRd hp0 hp1 hpl1 hpl
  go_wp2
  go_quiet (fail)
  go_wp2_with (go_at_call 63; fail)
  clear cD cA hq
  have T1 := hide (S1.out.under (below_drewN (Below.refl _ _) nq))
  generalize y1.drewN nq = z1 at T1 ⊢
  clear S1
  refine (number32_any w0 _ b (w.heap.size + 2) ok1 _ zs p1 T1.out.rdr hz2 HB.out).mono ?_
  rintro e y2 ⟨s, rfl, hN⟩
  have hs32 : s < 4294967296 := num_bd HB.out hN
  obtain ⟨ok2, p2, r1, a1, v1, g1, hp2, _⟩ := AdvO.numM A2.out hN
  have S2 := hide (T1.out.onward r1 g1)
  have A3 := hide (show AdvO zs (pos + 16) ok2 p2 from a1)
  have V3 := hide (show pos + 16 ≤ zs.length → s = unle ((zs.drop (pos + 12)).take 4) from fun h => v1 (a1.1.2 h))
  have hpos : ok2 = true → 0 < p2 := fun h => by rw [a1.2 h]; omega
  clear r1 a1 v1 g1 hN T1 A2
  go_wp2_with (go_at_call 64; fail)
  refine (take_both w0 _ b (w.heap.size + 2) ok2 _ zs p2 m S2.out.rdr hpos (by omega) hz2).mono ?_
  rintro e y3 ⟨sv, rfl, hT⟩
  obtain ⟨ok3, p3, ts, r1, a1, hts, hl1, v1, g1, hl2, hp3, bts⟩ := AdvO.tookM A3.out hT
  have S3 := hide (S2.out.onward r1 g1)
  have A4 := hide (show AdvO zs (pos + 16 + m) ok3 p3 from a1)
  have V4 := hide (show pos + 16 + m ≤ zs.length → ts = (zs.drop (pos + 16)).take m from fun h => v1 (a1.1.2 h))
  have HT := hide (And.intro hts (And.intro (bts HB.out) hl2))
  have HP2 := hide (And.intro hp2 (And.intro hp3 r1.le))
  obtain ⟨sa, sc, rfl⟩ : ∃ sa sc, sv = .slice sa ts.length sc := by obtain ⟨x1, x2, h1, _⟩ := hts; exact ⟨x1, x2, h1⟩
  clear r1 a1 v1 g1 hT S2 A3 hpos hts bts hl1 hl2 hp2 hp3
  have hsw : IntKind.u32.wrap (s : Int) = (s : Int) := by rw [IntKind.wrap_u32]; omega
  obtain ⟨cr, hcr⟩ : ∃ cr : Nat, cr = Crc.crc ((zs.drop pos).take (p1 - pos) ++ ts) := ⟨_, rfl⟩
  have HCR := hide hcr
  clear hcr
  go_wp2
  go_region_held3 (fun _ => True) (trivial) (first
    | (go_at_call 31; refine (recSumG ((zs.drop pos).take (p1 - pos)) ts _ _ _ ((S3.out.rdr.lift HH.out).below ((Below.refl _ _).drew)) ((S3.out.rdr.lift HT.out.1).below ((Below.refl _ _).drew)) ?_ ?_).mono ?_; (intro z hz; rcases List.mem_append.1 hz with hz | hz; exact HB.out z (List.mem_of_mem_drop (List.mem_of_mem_take hz)); exact HT.out.2.1 z hz); (rw [List.length_append, List.length_take, List.length_drop]; have := HT.out.2.2; omega); rintro e w4 ⟨he4, hb4⟩; rw [← HCR.out] at he4; subst he4; have S4 := hide (S3.out.under (((Below.refl _ _).drew).trans hb4)); clear hb4)
    | (go_at_call 49; refine (need_any b (w.heap.size + 2) _ 21 ok3 _ _ S4.out.rdr.ck (by have := S4.out.lt; omega) S4.out.rdr.lo2).mono ?_; rintro e w5 ⟨rfl, hc5, ht5⟩; have S5 := hide (S4.out.tch hc5 ht5); clear hc5 ht5))
  clear S3 S4 hsw
  have cN := (S5.out.blk.cell 0).trans (show (logC (wrap64 (x : Int)) 0 0 0 0 0 ⟨#[]⟩ ⟨#[]⟩ (.slice none 0 0) (.slice none 0 0))[0]? = some (.int .i64 (wrap64 (x : Int))) from rfl)
  obtain ⟨ok5, hok5⟩ : ∃ ok5, ok5 = (ok3 && ((s : Int) == (cr : Int))) := ⟨_, rfl⟩
  rw [← hok5] at S5
  have HO5 := hide hok5
  obtain ⟨X, hX⟩ : ∃ X, X = wrap64 (x : Int) := ⟨_, rfl⟩
  rw [← hX] at cN S5 ⊢
  have HX := hide hX
  clear hok5 hX
  go_wp2
  go_region_held3 (fun w' => w'.cell? ⟨w.heap.size + 1, 0, none⟩ = some (.int .i64 X)) (first | assumption | exact cN6) (first
    | (go_at_call 26; refine (isRec_any X _).mono ?_; rintro e w6 ⟨rfl, rfl⟩; have S6 := hide (S5.out.under ((Below.refl _ _).drew)))
    | (go_at_call 49; refine (need_any b (w.heap.size + 2) _ 21 ok5 _ _ S6.out.rdr.ck (by have := S6.out.lt; omega) S6.out.rdr.lo2).mono ?_; rintro e w7 ⟨rfl, hc7, ht7⟩; have S7 := hide (S6.out.tch hc7 ht7); have cN6 := (S7.out.blk.cell 0).trans (show (logC X 0 0 0 0 0 ⟨#[]⟩ ⟨#[]⟩ (.slice none 0 0) (.slice none 0 0))[0]? = some (.int .i64 X) from rfl); clear hc7 ht7))
  clear S5 S6 cN cN6
  obtain ⟨ok7, hok7⟩ : ∃ ok7, ok7 = (ok5 && wi X 1 1099511627776) := ⟨_, rfl⟩
  rw [← hok7] at S7
  have HO7 := hide hok7
  clear hok7
  go_wp2_with (go_at_call 65; fail)
  refine (readOp_any _ ts _ (S7.out.rdr.lift HT.out.1) HT.out.2.1 (Nat.le_trans HT.out.2.2 hz)).mono ?_
  rintro e w8 ⟨x0, x1, x2, x3, x4, x5, ps, x6, qs, x7, d, ds, okr, pr, ev, rfl, hRD, ho8, hf8, hb8⟩
  obtain ⟨da, dc, rfl⟩ := own_shapeL ho8
  have HRD := hide hRD
  obtain ⟨RF, hRF⟩ : ∃ RF, RF = (okr && decide (ts.length = pr) && rightO (x0 : Int) (x3 : Int) (x4 : Int) (strOfNums ps) (strOfNums qs) ds.length) := ⟨_, rfl⟩
  rw [← hRF] at hf8
  have HRF := hide hRF
  have HZ := hide (show (opC (x0 : Int) (wrap64 (x1 : Int)) (wrap64 (x2 : Int)) (x3 : Int) (x4 : Int) (strOfNums ps) (strOfNums qs) (.slice da ds.length dc)).size = 8 from rfl)
  have HC1 := hide (opC_one (x0 : Int) (wrap64 (x1 : Int)) (wrap64 (x2 : Int)) (x3 : Int) (x4 : Int) (strOfNums ps) (strOfNums qs) da ds.length dc)
  have S8 := hide (S7.out.under hb8)
  have F8 := hide (hf8.mono S7.out.rdr.lo2)
  have O8 := hide ho8
  have h7w := S7.out.rdr.lo2
  have h8 := hb8.size
  have hbl := S7.out.lt
  clear hRD hRF ho8 hf8 hb8 S7
  generalize hC8 : opC (x0 : Int) (wrap64 (x1 : Int)) (wrap64 (x2 : Int)) (x3 : Int) (x4 : Int) (strOfNums ps) (strOfNums qs) (.slice da ds.length dc) = C8 at HZ HC1 ⊢
  have HC8 := hide hC8
  clear hC8
  have bA : Below w8.heap.size w8 (w8.alloc (.cells #[.int .i64 0, .int .i64 0, .int .i64 0, .int .i64 0, .int .i64 0, .string ⟨#[]⟩, .string ⟨#[]⟩, .slice none 0 0] 30)) := (Below.refl _ _).alloc (Nat.le_refl _) _
  have K8 := hide (And.intro (Blk.new w8 #[.int .i64 0, .int .i64 0, .int .i64 0, .int .i64 0, .int .i64 0, .string ⟨#[]⟩, .string ⟨#[]⟩, .slice none 0 0] 30) bA)
  clear bA
  go_wp2_with (first | (refine wpList_store_row rfl 30 _ _ rfl w8.heap.size C8 rfl rfl 30 _ K8.out.1 (by rw [HZ.out]; exact infoO8) (by rw [HZ.out]; rfl) HC1.out ?_) | (go_at_call 52; fail))
  have b9 := below_setRow K8.out.2 (Nat.le_refl w8.heap.size) C8
  have S9 := hide (S8.out.under b9)
  have F9 := hide (F8.out.below b9)
  have O9 := hide (own_below O8.out b9)
  have K9 := hide (K8.out.1.row C8)
  generalize (w8.alloc (.cells #[.int .i64 0, .int .i64 0, .int .i64 0, .int .i64 0, .int .i64 0, .string ⟨#[]⟩, .string ⟨#[]⟩, .slice none 0 0] 30)).setRow w8.heap.size C8 = w9 at b9 S9 F9 O9 K9 ⊢
  clear S8 F8 O8 K8 b9
  refine (inside_both b (w.heap.size + 2) _ 21 ok7 RF ev w9 S9.out.rdr.ck F9.out (by omega) S9.out.rdr.lo2).mono ?_
  rintro e w10 ⟨rfl, hc10, ht10⟩
  have S10 := hide (S9.out.tch hc10 ht10)
  have K10 := hide (show Blk w10 w8.heap.size C8 30 from (ht10.1.block _ K9.out.lt (by simp; omega)).trans K9.out)
  have O10 := hide (O9.out.kept ht10.1 (by
    cases hv : (Value.slice da ds.length dc).ownBlock with
    | none => exact .inl rfl
    | some k => exact .inr (fun e => by have := (O9.out.lt k hv).1; injection e with e; omega)))
  clear hc10 ht10 S9 F9 O9 K9
  have hth := S10.out.blk.there 1 8 (by show 1 + 8 ≤ 10; omega)
  have HTh := hide hth
  clear hth
  go_wp2_with (first | (refine wpList_load_row rfl 30 _ rfl w8.heap.size rfl 30 C8 (0, 0) _ K10.out Tryz.underlying30 rfl (by rw [HZ.out]; exact infoO8) ?_) | (refine wpList_store_mid rfl 30 _ _ rfl (w.heap.size + 1) 1 C8 rfl rfl (by rw [HZ.out]; exact HTh.out) (by rw [HZ.out]; exact infoO8) HC1.out ?_) | fail)
  have S11 := hide (show Rl w0 w (w10.setCells (w.heap.size + 1) 1 C8.toList) b (w.heap.size + 2) (.slice a zs.length cap) zs (logC X (x0 : Int) (wrap64 (x1 : Int)) (wrap64 (x2 : Int)) (x3 : Int) (x4 : Int) (strOfNums ps) (strOfNums qs) (.slice da ds.length dc) (.slice none 0 0)) (ok7 && RF) p3 from by
    rw [← HC8.out]
    exact S10.out.putOp _ _ _ _ _ _ _ _)
  have O11 := hide (O10.out.kept (cells_grownL C8.toList w10 (b := w.heap.size + 1) 1) (by
    cases hv : (Value.slice da ds.length dc).ownBlock with
    | none => exact .inl rfl
    | some k => exact .inr (fun e => by have := (O10.out.lt k hv).1; injection e with e; omega)))
  generalize w10.setCells (w.heap.size + 1) 1 C8.toList = w11 at S11 O11 ⊢
  clear S10 K10 O10 HTh HC1 HZ HC8
  have cD := S11.out.rdr.data
  have cA := S11.out.rdr.at_
  have hpp := HP.out
  have hpp2 := HP2.out
  obtain ⟨ra, rc, hRr, hq⟩ := slice_piece S11.out.rdr.rd pos p3 (by omega) hpp2.2.2
  have HRr := hide hRr
  have kD := drew_cell cD
  have kA := drew_cell cA
  clear hRr hpp hpp2
  refine wp_region_noPanic ?_
  refine wp_region_held_drew (S := fun w' => w'.cell? ⟨b, 2, none⟩ = some (.slice a zs.length cap) ∧ w'.cell? ⟨b, 3, none⟩ = some (.int .i64 (p3 : Int))) (by kernel_rfl) ⟨kD, kA⟩ (fun hH => ?_)
  have S12 := hide (S11.out.under ((Below.refl _ _).drew))
  have O12 := hide (own_below O11.out ((Below.refl _ _).drew))
  clear S11 O11 cD cA kD kA
  generalize w11.drew = w12 at S12 O12 hH ⊢
  have cS := (S12.out.blk.cell 9).trans (show (logC X (x0 : Int) (wrap64 (x1 : Int)) (wrap64 (x2 : Int)) (x3 : Int) (x4 : Int) (strOfNums ps) (strOfNums qs) (.slice da ds.length dc) (.slice none 0 0))[9]? = some (.slice none 0 0) from rfl)
  have fS := S12.out.blk.frozen 9
  refine wpAnyH_take (i := 0) (oi := _) (v := (.pointer (some ⟨b, 0, none⟩))) rfl (by kernel_rfl) (by kernel_rfl) (by kernel_rfl) (fun _ _ _ h => h) (Or.inl ⟨by rfl, fun w' hw' => by go_simp⟩) hH ?_
  try simp only [Act.put, List.getElem_toArray, List.getElem_cons_zero, List.getElem_cons_succ, List.setIfInBounds_toArray, List.set_cons_zero, List.set_cons_succ]
  refine wpAnyH_take (i := 1) (oi := _) (v := (.pointer (some ⟨b, 0, none⟩))) rfl (by kernel_rfl) (by kernel_rfl) (by kernel_rfl) (fun _ _ _ h => h) (Or.inl ⟨by rfl, fun w' hw' => by go_simp⟩) hH ?_
  try simp only [Act.put, List.getElem_toArray, List.getElem_cons_zero, List.getElem_cons_succ, List.setIfInBounds_toArray, List.set_cons_zero, List.set_cons_succ]
  refine wpAnyH_take (i := 2) (oi := _) (v := (.pointer (some ⟨b, 2, none⟩))) rfl (by kernel_rfl) (by kernel_rfl) (by kernel_rfl) (fun _ _ _ h => h) (Or.inl ⟨by rfl, fun w' hw' => by go_simp⟩) hH ?_
  try simp only [Act.put, List.getElem_toArray, List.getElem_cons_zero, List.getElem_cons_succ, List.setIfInBounds_toArray, List.set_cons_zero, List.set_cons_succ]
  refine wpAnyH_take (i := 3) (oi := _) (v := .slice a zs.length cap) rfl (by kernel_rfl) (by kernel_rfl) (by kernel_rfl) (fun _ _ _ h => h) (Or.inl ⟨by rfl, fun w' hw' => by have hc := hw'.1; clear hw' hH cS fS; go_simp⟩) hH ?_
  try simp only [Act.put, List.getElem_toArray, List.getElem_cons_zero, List.getElem_cons_succ, List.setIfInBounds_toArray, List.set_cons_zero, List.set_cons_succ]
  refine wpAnyH_take (i := 4) (oi := _) (v := .int .i64 (pos : Int)) rfl (by kernel_rfl) (by kernel_rfl) (by kernel_rfl) (fun _ _ _ h => h) (Or.inl ⟨by rfl, fun w' hw' => by go_simp⟩) hH ?_
  try simp only [Act.put, List.getElem_toArray, List.getElem_cons_zero, List.getElem_cons_succ, List.setIfInBounds_toArray, List.set_cons_zero, List.set_cons_succ]
  refine wpAnyH_take (i := 5) (oi := _) (v := (.pointer (some ⟨b, 0, none⟩))) rfl (by kernel_rfl) (by kernel_rfl) (by kernel_rfl) (fun _ _ _ h => h) (Or.inl ⟨by rfl, fun w' hw' => by go_simp⟩) hH ?_
  try simp only [Act.put, List.getElem_toArray, List.getElem_cons_zero, List.getElem_cons_succ, List.setIfInBounds_toArray, List.set_cons_zero, List.set_cons_succ]
  refine wpAnyH_take (i := 6) (oi := _) (v := (.pointer (some ⟨b, 0, none⟩))) rfl (by kernel_rfl) (by kernel_rfl) (by kernel_rfl) (fun _ _ _ h => h) (Or.inl ⟨by rfl, fun w' hw' => by go_simp⟩) hH ?_
  try simp only [Act.put, List.getElem_toArray, List.getElem_cons_zero, List.getElem_cons_succ, List.setIfInBounds_toArray, List.set_cons_zero, List.set_cons_succ]
  refine wpAnyH_take (i := 7) (oi := _) (v := (.pointer (some ⟨b, 3, none⟩))) rfl (by kernel_rfl) (by kernel_rfl) (by kernel_rfl) (fun _ _ _ h => h) (Or.inl ⟨by rfl, fun w' hw' => by go_simp⟩) hH ?_
  try simp only [Act.put, List.getElem_toArray, List.getElem_cons_zero, List.getElem_cons_succ, List.setIfInBounds_toArray, List.set_cons_zero, List.set_cons_succ]
  refine wpAnyH_take (i := 8) (oi := _) (v := .int .i64 (p3 : Int)) rfl (by kernel_rfl) (by kernel_rfl) (by kernel_rfl) (fun _ _ _ h => h) (Or.inl ⟨by rfl, fun w' hw' => by have hc := hw'.2; clear hw' hH cS fS; go_simp⟩) hH ?_
  try simp only [Act.put, List.getElem_toArray, List.getElem_cons_zero, List.getElem_cons_succ, List.setIfInBounds_toArray, List.set_cons_zero, List.set_cons_succ]
  refine wpAnyH_take (i := 9) (oi := _) (v := .slice ra (p3 - pos) rc) rfl (by kernel_rfl) (by kernel_rfl) (by kernel_rfl) (fun _ _ _ h => h) (Or.inl ⟨by rfl, fun w' hw' => by clear hw' hH cS fS; go_simp⟩) hH ?_
  try simp only [Act.put, List.getElem_toArray, List.getElem_cons_zero, List.getElem_cons_succ, List.setIfInBounds_toArray, List.set_cons_zero, List.set_cons_succ]
  refine wpAnyH_take (i := 10) (oi := _) (v := (.pointer (some ⟨w.heap.size + 1, 9, none⟩))) rfl (by kernel_rfl) (by kernel_rfl) (by kernel_rfl) (fun _ _ _ h => h) (Or.inl ⟨by rfl, fun w' hw' => by go_simp⟩) hH ?_
  try simp only [Act.put, List.getElem_toArray, List.getElem_cons_zero, List.getElem_cons_succ, List.setIfInBounds_toArray, List.set_cons_zero, List.set_cons_succ]
  refine wpAnyH_ready (rs := [11]) (by kernel_rfl) (by simp) ?_
  refine AllReadyH.cons (o := _) rfl ?_ AllReadyH.nil
  intro K hK
  go_simp
  refine hK.out _ _ ⟨(World.cell?_setCell_other _ _ _ _ (by intro e; injection e with e1 e2; omega)).trans hH.1, (World.cell?_setCell_other _ _ _ _ (by intro e; injection e with e1 e2; omega)).trans hH.2⟩ (fun hH2 => ?_)
  clear hK K
  try simp only [Act.put, List.getElem_toArray, List.getElem_cons_zero, List.getElem_cons_succ, List.setIfInBounds_toArray, List.set_cons_zero, List.set_cons_succ]
  refine wpAnyH_done (by kernel_rfl) (NoPanic.normal ?_) _
  clear hH hH2 cS fS
  have S13 := hide (show Rl w0 w (w12.setCell ⟨w.heap.size + 1, 9, none⟩ (.slice ra (p3 - pos) rc)) b (w.heap.size + 2) (.slice a zs.length cap) zs (logC X (x0 : Int) (wrap64 (x1 : Int)) (wrap64 (x2 : Int)) (x3 : Int) (x4 : Int) (strOfNums ps) (strOfNums qs) (.slice da ds.length dc) (.slice ra (p3 - pos) rc)) (ok7 && RF) p3 from S12.out.put 9 _)
  have O13 := hide (O12.out.kept (grown_cell w12 (w.heap.size + 1) 9 (.slice ra (p3 - pos) rc)) (by
    cases hv : (Value.slice da ds.length dc).ownBlock with
    | none => exact .inl rfl
    | some k => exact .inr (fun e => by have := (O12.out.lt k hv).1; injection e with e; omega)))
  have HL := hide (logC_one X (x0 : Int) (wrap64 (x1 : Int)) (wrap64 (x2 : Int)) (x3 : Int) (x4 : Int) (strOfNums ps) (strOfNums qs) da ds.length dc ra (p3 - pos) rc)
  have HLs := hide (show (logC X (x0 : Int) (wrap64 (x1 : Int)) (wrap64 (x2 : Int)) (x3 : Int) (x4 : Int) (strOfNums ps) (strOfNums qs) (.slice da ds.length dc) (.slice ra (p3 - pos) rc)).size = 10 from rfl)
  clear S12 O12
  generalize w12.setCell ⟨w.heap.size + 1, 9, none⟩ (.slice ra (p3 - pos) rc) = w13 at S13 O13 ⊢
  generalize hC : logC X (x0 : Int) (wrap64 (x1 : Int)) (wrap64 (x2 : Int)) (x3 : Int) (x4 : Int) (strOfNums ps) (strOfNums qs) (.slice da ds.length dc) (.slice ra (p3 - pos) rc) = C at S13 HL HLs
  have HC := hide hC
  clear hC
  go_wp2_with (first | (refine wpList_load_row rfl 72 _ rfl (w.heap.size + 1) rfl 72 C (0, 0) _ S13.out.blk Tryz.underlying72 rfl (by rw [HLs.out]; exact infoLg) ?_) | (refine wpList_store_row rfl 72 _ _ rfl w.heap.size C rfl rfl 72 _ S13.out.res (by rw [HLs.out]; exact infoLg) (by rw [HLs.out]; rfl) HL.out ?_) | fail)
  have gR : w13.grownBy (w13.setRow w.heap.size C) (some w.heap.size) := setRow_grownL _ _ _
  refine bodyPost_ret (v := .agg C) (results_cell_row rfl _ _ w.heap.size 72 C (0, 0) _ rfl (S13.out.res.row C) Tryz.underlying72 rfl (by rw [HLs.out]; exact infoLg)) rfl ?_
  refine ⟨x, (x0 : Int), wrap64 (x1 : Int), wrap64 (x2 : Int), (x3 : Int), (x4 : Int), strOfNums ps, strOfNums qs, .slice da ds.length dc, .slice ra (p3 - pos) rc, ds, ok7 && RF, p3, w.heap.size + 2, ?_, S13.out.rdr.aside gR hblt (by omega), grown_new S13.out.gr gR (Nat.le_refl _), by omega, ?_, ?_, HRr.out⟩
  · rw [← HC.out, HX.out]
  · refine own_mono (O13.out.kept gR (by
      cases hv : (Value.slice da ds.length dc).ownBlock with
      | none => exact .inl rfl
      | some k => exact .inr (fun e => by have := (O13.out.lt k hv).1; injection e with e; omega))) (by omega)
  · have hD := opRd_dec HRD.out HT.out.2.1
    have := rl_math HB.out A4.out V0.out V1.out V3.out (hs := (zs.drop pos).take (p1 - pos)) V2.out V4.out (RF := RF) (fun h => hD.1 (by rw [← HRF.out]; exact h)) (fun h => hD.2 (by rw [← HRF.out]; exact h))
    rw [HO7.out, HO5.out, HX.out, HCR.out]
    exact this
end Go.Proofs.YtohmjfagbhnieaaGreatDoor
