/- The model's LogScan. -/
import Derived.Test.YthkoflpcinbgeaaZq43
namespace Go.Proofs.Ythkoflpcinbgeaa
set_option linter.unusedVariables false
set_option linter.unusedSimpArgs false
open Go.RowKit

theorem infoLE : (Try.prog.info? 36).map (·.size) = some 9 := by kernel_rfl
theorem infoLEz : (Try.prog.info? 36).map (fun i => (i.zero, i.size, i.bytes)) = some (some (.agg #[.int .i64 0, .int .i64 0, .int .i64 0, .int .i64 0, .int .i64 0, .int .i64 0, .string ⟨#[]⟩, .string ⟨#[]⟩, .slice none 0 0]), 9, 104) := by kernel_rfl
theorem drewN_cell {W : World} {a : Addr} {v : Value} (n : Nat) (h : W.cell? a = some v) : (W.drewN n).cell? a = some v := ((below_drewN (Below.refl W.heap.size W) n).cell (p := a) (cell_lt h)).trans h
theorem newL (w : World) (cs : List Value) (e : TypeId) : ∀ j u, cs[j]? = some u → (w.alloc (.cells cs.toArray e)).cell? ((⟨w.heap.size, 0, none⟩ : Addr).add j) = some u := fun j u hu => by
  rw [Addr.add_mid, cell_of_row _ _ (0 + j) _ _ _ (heap_alloc_new w _), Nat.zero_add]
  simpa using hu
theorem oneE (g K A B U G : Int) (p q : ByteArray) (a : Option Addr) (n c : Nat) : ∀ u ∈ ([.int .i64 g, .int .i64 K, .int .i64 A, .int .i64 B, .int .i64 U, .int .i64 G, .string p, .string q, .slice a n c] : List Value), u.oneCell' = true := by
  intro u hu
  simp only [List.mem_cons, List.not_mem_nil, or_false] at hu
  rcases hu with rfl | rfl | rfl | rfl | rfl | rfl | rfl | rfl | rfl <;> rfl
/-- Between two rounds of the model's reading. -/
structure Isc (w : World) (zs : List Int) (L : List EntL) (k p : Nat) (lg out : Value) (vs : List Value) (wr : World) : Prop where
  rd : Rd .u8 w lg (zs.drop p)
  pl : p ≤ zs.length
  le : k ≤ L.length
  sc : Sc (lastN L k) (zs.drop p) (L.drop k)
  own : OwnN wr w.heap.size 36 8 out ((L.take k).map neE) vs
  old : Below w.heap.size w wr
theorem isc_next {w : World} {zs : List Int} {L : List EntL} {k p m : Nat} {lg lg' out v4 d : Value} {vs : List Value} {wr WA w4 : World} {Z : List Int} {e : EntL} (hI : Isc w zs L k p lg out vs wr) (hZ : Z = zs.drop p) (hZb : ∀ z ∈ Z, 0 ≤ z ∧ z < 256) (hb : Below wr.heap.size wr WA) (he : e.ok) (hf : folE (lastN L k) e) (hz : Z = e.raw ++ Z.drop (16 + m)) (hl : e.raw.length = 16 + m)
    (hd : WA.ownsRow wr.heap.size 5 1 d e.ds.length (e.ds.map (Value.int .u8))) (ho : w4.ownsRow w.heap.size 36 9 v4 (k + 1) (cellsN vs ((L.take k).map neE) ++ ((neE e).1 ++ [d]))) (hg : WA.grownBy w4 out.ownBlock) (hr : Rd .u8 w lg' (Z.drop (16 + m))) :
    Isc w zs L (k + 1) (p + (16 + m)) lg' v4 (vs ++ [d]) w4 := by
  obtain ⟨s1, s2, s3⟩ := sc_next (by rw [hZ]; exact hI.sc) hZb he hf hz
  have hlen := congrArg List.length hz
  rw [List.length_append, hl, List.length_drop] at hlen
  have hZl : Z.length = zs.length - p := by rw [hZ, List.length_drop]
  have hkl : ((L.take k).map neE).length = k := by rw [List.length_map, List.length_take]; omega
  have htk : (L.take (k + 1)).map neE = (L.take k).map neE ++ [neE e] := by
    rw [List.take_add_one, s1]
    simp
  have h16 : 16 + m ≤ Z.length := by
    have := congrArg List.length hz
    rw [List.length_append, hl] at this
    omega
  refine ⟨by rw [← List.drop_drop, ← hZ]; exact hr, by have := hI.pl; omega, by omega, ?_, ?_, ?_⟩
  · rw [lastN_succ s1, ← List.drop_drop, ← hZ]
    exact s2
  · rw [htk]
    refine (hI.own.below hb).push (by decide) (neE e) d rfl (own_mono hd hI.old.size) (fun i u' b hu hb' e' => ?_) (by rw [hkl]; exact ho) hg
    have h1 := (hd.lt b e').1
    have hi2 : i < ((L.take k).map neE).length := by rw [← hI.own.len]; exact (List.getElem?_eq_some_iff.1 hu).1
    have h2 := ((hI.own.dat i u' _ hu (List.getElem?_eq_getElem hi2)).lt b hb').2
    omega
  · refine (hI.old.trans (hb.mono hI.old.size)).grown hg (Nat.le_trans hI.old.size hb.size) (fun j e' => ?_)
    exact (hI.own.row.lt j e').1
set_option maxRecDepth 100000 in
set_option maxHeartbeats 8000000 in
theorem specLS_any (v : Value) (zs : List Int) (L : List EntL) (w : World) (hL : Sc none zs L) (h : Rd .u8 w v zs) (hbd : ∀ z ∈ zs, 0 ≤ z ∧ z < 256) (hz : zs.length ≤ 1048576) :
    Calls Try.prog 11 #[v] w fun e w' => ∃ v' vs, e = .returned v' ∧ OwnN w' w.heap.size 36 8 v' (L.map neE) vs ∧ Below w.heap.size w w' := by
  obtain ⟨a, cap, rfl⟩ : ∃ a cap, v = .slice a zs.length cap := by obtain ⟨a, cap, h1, _⟩ := h; exact ⟨a, cap, h1⟩
  have I0 := hide (show Isc w zs L 0 0 (.slice a zs.length cap) (.slice (some ⟨w.heap.size, 0, none⟩) 0 0) [] (w.alloc (.cells #[] 36)) from ⟨by simpa using h, by omega, by omega, by simpa [lastN] using hL, by simpa using OwnN.empty w 36 8, (Below.refl _ _).alloc (Nat.le_refl _) _⟩)
  have HB := hide hbd
  have HL0 := hide hL.len
  have HLo := hide hL.oks
  obtain ⟨i0, hi, hz0, hz1, hz2⟩ := info_parts infoLEz
  clear h hL hbd
  go_enter Try.func11, Try.ntmps11
  go_wp2
  go_loopw [0, 3] (fun lg out wr => ∃ (k p : Nat) (vs : List Value), Isc w zs L k p lg out vs wr) (fun lg _ _ => sliceLen lg)
  case atStart => exact ⟨_, _, _, I0.out⟩
  case round =>
    clear I0
    obtain ⟨k, p, vs, hI⟩ := hrel
    have hpl := hI.pl
    obtain ⟨Z, hZ⟩ : ∃ Z, Z = zs.drop p := ⟨_, rfl⟩
    have hZl : Z.length ≤ 1048576 := by rw [hZ, List.length_drop]; omega
    have HZb := hide (show ∀ z ∈ Z, 0 ≤ z ∧ z < 256 from by rw [hZ]; exact fun z hz => HB.out z (List.mem_of_mem_drop hz))
    have hR : Rd .u8 w u0 Z := by rw [hZ]; exact hI.rd
    have HS := hide (show Sc (lastN L k) Z (L.drop k) from by rw [hZ]; exact hI.sc)
    obtain ⟨a1, c1, rfl⟩ : ∃ a1 c1, u0 = .slice a1 Z.length c1 := by obtain ⟨x1, x2, h1, _⟩ := hR; exact ⟨x1, x2, h1⟩
    have HR := hide hR
    have hkl : ((L.take k).map neE).length = k := by rw [List.length_map, List.length_take]; have := hI.le; omega
    obtain ⟨oa, oc, ho⟩ := own_shape hI.own.row
    rw [hkl] at ho
    subst ho
    have HZ := hide (And.intro hZ (show Z.length = zs.length - p from by rw [hZ, List.length_drop]))
    have HI := hide hI
    have HEnd := hide (fun (w' : World) (hb : Below wr.heap.size wr w') (hk : k = L.length) => (show ∃ v' vs', Ending.returned (.slice oa k oc) = .returned v' ∧ OwnN w' w.heap.size 36 8 v' (L.map neE) vs' ∧ Below w.heap.size w w' from ⟨_, vs, rfl, by
      have := HI.out.own.below hb
      rw [hk, List.take_length] at this
      rw [← hk] at this
      exact this, HI.out.old.trans (hb.mono HI.out.old.size)⟩))
    have HNo := hide (fun (hno : ∀ (f : EntL) (r : List Int), f.ok → folE (lastN L k) f → Z ≠ f.raw ++ r) => sc_stop HS.out HI.out.le hno)
    clear hI hR hZ hpl hkl
    by_cases h16 : Z.length < 16
    · have HE := hide (HEnd.out wr (Below.refl _ _) (HNo.out (fun f r hf _ hz => by have := (ms_back HZb.out hf hz).1; omega)))
      clear HEnd HNo
      go_wp2
      go_ret
      exact HE.out
    · obtain ⟨a2, c2, r2, hq2⟩ := slice_piece HR.out 8 12 (by omega) (by omega)
      have hq2' : ∀ wx, (Instr.slice 22 (.slice a1 Z.length c1) (some (.int .i64 8)) (some (.int .i64 12)) none).run Try.prog wx = .ok (.slice a2 4 c2) wx := hq2
      obtain ⟨m, hm⟩ : ∃ m, m = unle ((Z.drop 8).take 4) := ⟨_, rfl⟩
      have bd2 : ∀ z ∈ (Z.drop 8).take 4, 0 ≤ z ∧ z < 256 := fun z hz => HZb.out z (List.mem_of_mem_drop (List.mem_of_mem_take hz))
      have hg2 := gval2 bd2 (by rw [List.length_take]; omega)
      rw [← hm] at hg2
      have R2 := hide (And.intro (show Rd .u8 w (.slice a2 4 c2) ((Z.drop 8).take 4) from r2) (And.intro bd2 hg2.1))
      have hm32 := hg2.2
      have HM := hide hm
      clear hq2 r2 bd2 hg2 hm
      go_wp2_with (go_at_call 18; fail)
      refine (get_any _ ((Z.drop 8).take 4) wr (R2.out.1.below HI.out.old) (by rw [List.length_take]; omega) R2.out.2.1).mono ?_
      rintro e w' ⟨rfl, rfl⟩
      rw [R2.out.2.2]
      clear R2 hq2'
      by_cases hml : Z.length - 16 < m
      · have HE := hide (HEnd.out wr (Below.refl _ _) (HNo.out (fun f r hf _ hz => by have := (ms_back HZb.out hf hz).2.1; have := HM.out; omega)))
        have hml' : (Z.length : Int) - 16 < (m : Int) := by omega
        clear HEnd HNo
        go_wp2
        go_ret
        exact HE.out
      · have hml' : ¬ ((Z.length : Int) - 16 < (m : Int)) := by omega
        obtain ⟨a3, c3, r3, hq3⟩ := slice_piece HR.out 16 (16 + m) (by omega) (by omega)
        have e3 : 16 + m - 16 = m := by omega
        rw [e3] at r3 hq3
        have hq3' : ∀ wx, (Instr.slice 22 (.slice a1 Z.length c1) (some (.int .i64 16)) (some (.int .i64 (16 + (m : Int)))) none).run Try.prog wx = .ok (.slice a3 m c3) wx := fun wx => by
          have := hq3 wx
          rw [show ((16 + m : Nat) : Int) = 16 + (m : Int) from by omega] at this
          exact this
        obtain ⟨E, hE⟩ : ∃ E, E = (Z.drop 16).take m := ⟨_, rfl⟩
        rw [← hE] at r3
        have R3 := hide (And.intro r3 (show ∀ z ∈ E, 0 ≤ z ∧ z < 256 from by rw [hE]; exact fun z hz => HZb.out z (List.mem_of_mem_drop (List.mem_of_mem_take hz))))
        have hEl : E.length ≤ 1048576 := by rw [hE, List.length_take, List.length_drop]; omega
        have HEe := hide hE
        clear hq3 r3 hE e3
        go_wp2_with (go_at_call 19; fail)
        refine (specDO_any _ E wr (R3.out.1.below HI.out.old) R3.out.2 hEl).mono ?_
        rintro e w1 ⟨K, A, B, U, G, pa, qa, dv, ds, code, rfl, hD, o1, b1⟩
        obtain ⟨da, dc, rfl⟩ := own_shape o1
        have HD := hide hD
        have H1 := hide (And.intro o1 b1)
        have hlen := isDec_len hD
        have HC1 := hide (opC_one K A B U G pa qa da ds.length dc)
        have HCz := hide (show (opC K A B U G pa qa (.slice da ds.length dc)).size = 8 from rfl)
        obtain ⟨C8, hC8⟩ : ∃ C8, C8 = opC K A B U G pa qa (.slice da ds.length dc) := ⟨_, rfl⟩
        rw [← hC8] at HC1 HCz ⊢
        have HC8 := hide hC8
        have hcode : code = 0 ∨ code = 21 := by rcases hD with ⟨h, _⟩ | ⟨h, _⟩ <;> omega
        clear hC8 hD o1 b1 hq3'
        have bA : Below w1.heap.size w1 (w1.alloc (.cells #[.int .i64 0, .int .i64 0, .int .i64 0, .int .i64 0, .int .i64 0, .string ⟨#[]⟩, .string ⟨#[]⟩, .slice none 0 0] 34)) := (Below.refl _ _).alloc (Nat.le_refl _) _
        have b2 := below_setRow bA (Nat.le_refl w1.heap.size) C8
        have K2 := hide (And.intro ((Blk.new w1 #[.int .i64 0, .int .i64 0, .int .i64 0, .int .i64 0, .int .i64 0, .string ⟨#[]⟩, .string ⟨#[]⟩, .slice none 0 0] 34).row C8) b2)
        clear bA b2
        rcases hcode with rfl | rfl
        · obtain ⟨a4, c4, r4, hq4⟩ := slice_pieceH HR.out 8 (by omega)
          have hq4' : ∀ wx, (Instr.slice 22 (.slice a1 Z.length c1) none (some (.int .i64 8)) none).run Try.prog wx = .ok (.slice a4 8 c4) wx := hq4
          have bd4 : ∀ z ∈ Z.take 8, 0 ≤ z ∧ z < 256 := fun z hz => HZb.out z (List.mem_of_mem_take hz)
          have R4 := hide (And.intro r4 bd4)
          obtain ⟨g8, hg8⟩ : ∃ g8, g8 = gval (Z.take 8) := ⟨_, rfl⟩
          have hg8b : g8 < 9223372036854775808 := by
            rw [hg8]; unfold gval
            split
            · omega
            · have := Nat.mod_add_div (unle (Z.take 8)) 256; omega
          have HG8 := hide hg8
          clear hq4 r4 bd4 hg8
          have B2 := hide (HI.out.old.trans ((H1.out.2.trans (K2.out.2.mono H1.out.2.size)).mono HI.out.old.size))
          have O2 := hide (own_below H1.out.1 K2.out.2)
          have BB := hide (H1.out.2.trans (K2.out.2.mono H1.out.2.size))
          go_wp2_with (first | (refine wpList_store_row rfl 34 _ _ rfl w1.heap.size C8 rfl rfl 34 _ (Blk.new w1 _ _) (by rw [HCz.out]; exact infoO8) (by rw [HCz.out]; rfl) HC1.out ?_) | (go_at_call 18; fail))
          generalize hw2 : (w1.alloc (.cells #[.int .i64 0, .int .i64 0, .int .i64 0, .int .i64 0, .int .i64 0, .string ⟨#[]⟩, .string ⟨#[]⟩, .slice none 0 0] 34)).setRow w1.heap.size C8 = w2 at K2 B2 O2 BB ⊢
          clear hw2
          refine (get_any _ (Z.take 8) w2 (R4.out.1.below B2.out) (by rw [List.length_take]; omega) R4.out.2).mono ?_
          rintro e w' ⟨rfl, rfl⟩
          rw [← HG8.out]
          clear hq4' R4
          go_wp2_with (first | (refine wpList_load_row rfl 34 _ rfl w1.heap.size rfl 34 C8 (0, 0) _ K2.out.1 Try.underlying34 rfl (by rw [HCz.out]; exact infoO8) ?_) | (go_at_call 20; fail))
          rw [HC8.out]
          have HDb := hide (show (∀ z ∈ ds, 0 ≤ z ∧ z < 256) ∧ E = bytesO K.toNat A B U.toNat G.toNat pa qa ds ∧ rightO K U G pa qa ds.length = true ∧ (In64 A ∧ In64 B) from by
            rcases HD.out with ⟨_, d2, d3, d4, d5⟩ | ⟨d1, _⟩
            · refine ⟨fun z hz => R3.out.2 z ?_, d2, d3, d4, d5⟩
              rw [d2]; unfold bytesO partsO; simp [hz]
            · omega)
          refine (specLR_any (g8 : Int) K A B U G pa qa _ ds w2 (Rd.own O2.out) HDb.out.1 (by unfold maxLen; omega) (by unfold maxLen; omega)).mono ?_
          rintro e w3 ⟨v3, rfl, o3, b3⟩
          rw [← HC8.out]
          have HenL := hide (show encL (g8 : Int) K A B U G pa qa ds = if wi (g8 : Int) 1 1099511627776 then recO g8 E else [] from by
            unfold encL rightL encO
            rw [HDb.out.2.2.1, Bool.and_true, if_pos rfl, Int.toNat_natCast, ← HDb.out.2.1])
          have HcoL := hide (show codeLR (g8 : Int) K U G pa qa ds.length = if wi (g8 : Int) 1 1099511627776 then 0 else 7 from by
            unfold codeLR rightL
            rw [HDb.out.2.2.1, Bool.and_true])
          have R5 := hide (Rd.own o3)
          have B3 := hide (BB.out.trans (b3.mono BB.out.size))
          have O3 := hide (own_below O2.out b3)
          have K3 := hide (K2.out.1.below b3 K2.out.1.lt)
          obtain ⟨a5, c5, rfl⟩ := own_shape o3
          clear o3 b3 B2 O2 BB K2 R3
          cases hwi : wi (g8 : Int) 1 1099511627776 with
          | false =>
            have HE := hide (fun (w' : World) (hb : Below w3.heap.size w3 w') => HEnd.out w' (B3.out.trans (hb.mono B3.out.size)) (HNo.out (fun f r hf _ hz => by
              have h1 := (ms_back HZb.out hf hz).2.2.2.1
              rw [← HG8.out] at h1
              have h2 := hf.1
              unfold wi at hwi
              simp at hwi
              omega)))
            rw [HcoL.out, hwi]
            clear HEnd HNo hwi
            go_wp2
            go_quiet (fail)
            go_wp2
            go_ret
            exact HE.out _ (below_drewN (Below.refl _ _) nq)
          | true =>
            rw [HcoL.out, hwi]
            rw [HenL.out, hwi] at R5 ⊢
            simp only [if_true] at R5 ⊢
            obtain ⟨a6, c6, r6, hq6⟩ := slice_pieceH HR.out (16 + m) (by omega)
            have hq6' : ∀ wx, (Instr.slice 22 (.slice a1 Z.length c1) none (some (.int .i64 (16 + (m : Int)))) none).run Try.prog wx = .ok (.slice a6 (16 + m) c6) wx := fun wx => by
              have := hq6 wx
              rw [show ((16 + m : Nat) : Int) = 16 + (m : Int) from by omega] at this
              exact this
            have hcE := fun nq => conv_rdO (R5.out.below (below_drewN (Below.refl _ _) nq))
            have hcZ := fun nq => conv_rdO (r6.below (below_drewN (HI.out.old.trans (B3.out.mono HI.out.old.size)) nq))
            clear hq6 r6
            generalize (recO g8 E).length = rl at hcE ⊢
            by_cases hEq : recO g8 E = Z.take (16 + m)
            · obtain ⟨k1, k2, k3⟩ := ms_of HZb.out (m := m) (g := g8) (by omega) (by rw [← HEe.out]; exact HD.out) hwi (by rw [← HEe.out]; exact hEq)
              have HK := hide (And.intro k1 (And.intro k2 k3))
              have K4 := hide (show Blk w3 w1.heap.size #[.int .i64 K, .int .i64 A, .int .i64 B, .int .i64 U, .int .i64 G, .string pa, .string qa, .slice da ds.length dc] 34 from by have := K3.out; rw [HC8.out] at this; exact this)
              have kd : ∀ nq, Blk (w3.drewN nq) w1.heap.size #[.int .i64 K, .int .i64 A, .int .i64 B, .int .i64 U, .int .i64 G, .string pa, .string qa, .slice da ds.length dc] 34 := fun nq => K4.out.below (below_drewN (Below.refl _ _) nq) K4.out.lt
              have HKd := hide kd
              have hss : strOfNums (recO g8 E) = strOfNums (Z.take (16 + m)) := by rw [hEq]
              rw [hss] at hcE
              clear k1 k2 k3 hEq hwi kd K3 hss
              generalize strOfNums (Z.take (16 + m)) = SS at hcE hcZ
              have HLen := hide (show k * 45 ≤ 1048576 from by have h1 := HI.out.le; have h2 := HL0.out; omega)
              have OWr := hide (fun (w' : World) (hb : Below w3.heap.size w3 w') => (show w'.ownsRow w.heap.size 36 9 (.slice oa k oc) k (cellsN vs ((L.take k).map neE)) from by
                have := (HI.out.own.below (B3.out.trans (hb.mono B3.out.size))).row
                rw [show ((L.take k).map neE).length = k from by rw [List.length_map, List.length_take]; have := HI.out.le; omega] at this
                exact this))
              by_cases hk0 : k = 0
              · subst hk0
                obtain ⟨a7, c7, r7, hq7⟩ := slice_pieceL HR.out (16 + m) (by omega)
                have hq7' : ∀ wx, (Instr.slice 22 (.slice a1 Z.length c1) (some (.int .i64 (16 + (m : Int)))) none none).run Try.prog wx = .ok (.slice a7 (Z.length - (16 + m)) c7) wx := fun wx => by
                  have := hq7 wx
                  rw [show ((16 + m : Nat) : Int) = 16 + (m : Int) from by omega] at this
                  exact this
                have R7 := hide r7
                clear hq7 r7
                go_wp2
                go_quiet (fail)
                go_wp2_with (first | (refine wpList_load_row rfl 34 _ rfl w1.heap.size rfl 34 #[.int .i64 K, .int .i64 A, .int .i64 B, .int .i64 U, .int .i64 G, .string pa, .string qa, .slice da ds.length dc] (0, 0) _ (HKd.out nq) Try.underlying34 rfl infoO8 ?_) | (at_builtin; refine wpList_append_own_at _ rfl (.tmp 72) (.tmp 76) 28 rfl w.heap.size 36 i0 (.agg #[.int .i64 0, .int .i64 0, .int .i64 0, .int .i64 0, .int .i64 0, .int .i64 0, .string ⟨#[]⟩, .string ⟨#[]⟩, .slice none 0 0]) 9 104 Try.underlying28 hi hz0 hz1 hz2 rfl (by decide) (.slice oa 0 oc) 0 _ rfl ((OWr.out _ (below_drewN (Below.refl _ _) nq)).alloc _) ⟨w3.heap.size, 0, none⟩ 1 1 [.int .i64 (g8 : Int), .int .i64 K, .int .i64 A, .int .i64 B, .int .i64 U, .int .i64 G, .string pa, .string qa, .slice da ds.length dc] rfl rfl (newL (w3.drewN nq) _ _) (oneE _ _ _ _ _ _ _ _ _ _ _) (by have := HLen.out; unfold maxLen; omega) (by have := HLen.out; omega) (by have := HI.out.old.size; have := B3.out.size; simp; omega) ?_; intro v4 w4 o4 g4 _ _; have H4 := hide (And.intro o4 g4); clear o4 g4) | fail)
                refine ⟨⟨_, _, _, isc_next (e := ⟨g8, K, A, B, U, G, pa, qa, ds⟩) HI.out HZ.out.1 HZb.out (B3.out.trans ((((Below.refl w3.heap.size w3).trans (below_drewN (Below.refl _ _) nq)).alloc (by simp) _).mono B3.out.size)) HK.out.1 (by simp [lastN, folE]) HK.out.2.1 HK.out.2.2 ?_ H4.out.1 H4.out.2 R7.out⟩, ?_⟩
                · exact own_below O3.out (((below_drewN (Below.refl _ _) nq)).alloc (by simp) _)
                · simp only [sliceLen]
                  omega
              · obtain ⟨kk, hkq⟩ : ∃ kk, k = kk + 1 := ⟨k - 1, by omega⟩
                have HKQ := hide hkq
                have hkk : kk < L.length := by have := HI.out.le; omega
                obtain ⟨el, hel⟩ : ∃ el, L[kk]? = some el := ⟨_, List.getElem?_eq_getElem hkk⟩
                have hle : ((L.take k).map neE)[kk]? = some (neE el) := by rw [List.getElem?_map, List.getElem?_take, if_pos (by omega), hel]; rfl
                have hkl : ((L.take k).map neE).length = k := by rw [List.length_map, List.length_take]; omega
                have hrd : RdN w3 8 (.slice oa ((L.take k).map neE).length oc) ((L.take k).map neE) vs := by rw [hkl]; exact (HI.out.own.below B3.out).rd
                obtain ⟨gb, off, uu, rfl, hgb, _, _, hrg⟩ := hrd.at hle
                have HCl := hide (show w3.cell? ⟨gb, off + kk * 9, none⟩ = some (.int .i64 (el.n : Int)) from hrg 0 _ rfl)
                have HEl := hide hel
                have hll := lastN_succ hel
                rw [← hkq] at hll
                have HLL := hide hll
                have hkn : (k : Int) - 1 = (kk : Int) := by omega
                have hk1 : (kk : Int) < (k : Int) := by omega
                have hk2 : ¬ (k : Int) ≤ 0 := by omega
                have hk3 : (0 : Int) < (k : Int) := by omega
                clear hrd hrg hle hkl hel hll hk0 hkq
                have hel40 : el.n ≤ 1099511627776 := (HLo.out el (List.mem_of_getElem? HEl.out)).1.2
                go_wp2
                go_quiet (fail)
                have hcl := drewN_cell nq HCl.out
                have B5 := hide (below_drewN (Below.refl w3.heap.size w3) nq)
                have K5 := hide (HKd.out nq)
                generalize w3.drewN nq = w5 at B5 K5 hcl ⊢
                have hkb : k ≤ 1048576 := by have := HLen.out; omega
                have hkkb : kk ≤ 1048576 := by omega
                by_cases hnum : g8 = el.n + 1
                · have HNum := hide hnum
                  have hnum' : ((g8 : Int) == (el.n : Int) + 1) = true := by rw [beq_iff_eq]; omega
                  obtain ⟨a7, c7, r7, hq7⟩ := slice_pieceL HR.out (16 + m) (by omega)
                  have hq7' : ∀ wx, (Instr.slice 22 (.slice a1 Z.length c1) (some (.int .i64 (16 + (m : Int)))) none none).run Try.prog wx = .ok (.slice a7 (Z.length - (16 + m)) c7) wx := fun wx => by
                    have := hq7 wx
                    rw [show ((16 + m : Nat) : Int) = 16 + (m : Int) from by omega] at this
                    exact this
                  have R7 := hide r7
                  clear hq7 r7 hnum
                  go_wp2_with (first | (refine wpList_load_row rfl 34 _ rfl w1.heap.size rfl 34 #[.int .i64 K, .int .i64 A, .int .i64 B, .int .i64 U, .int .i64 G, .string pa, .string qa, .slice da ds.length dc] (0, 0) _ K5.out Try.underlying34 rfl infoO8 ?_) | (at_builtin; refine wpList_append_own_at _ rfl (.tmp 72) (.tmp 76) 28 rfl w.heap.size 36 i0 (.agg #[.int .i64 0, .int .i64 0, .int .i64 0, .int .i64 0, .int .i64 0, .int .i64 0, .string ⟨#[]⟩, .string ⟨#[]⟩, .slice none 0 0]) 9 104 Try.underlying28 hi hz0 hz1 hz2 rfl (by decide) (.slice (some ⟨gb, off, none⟩) k oc) k _ rfl ((OWr.out _ B5.out).alloc _) ⟨w5.heap.size, 0, none⟩ 1 1 [.int .i64 (g8 : Int), .int .i64 K, .int .i64 A, .int .i64 B, .int .i64 U, .int .i64 G, .string pa, .string qa, .slice da ds.length dc] rfl rfl (newL w5 _ _) (oneE _ _ _ _ _ _ _ _ _ _ _) (by have := HLen.out; unfold maxLen; omega) (by have := HLen.out; omega) (by have := HI.out.old.size; have := B3.out.size; have := B5.out.size; simp; omega) ?_; intro v4 w4 o4 g4 _ _; have H4 := hide (And.intro o4 g4); clear o4 g4) | fail)
                  refine ⟨⟨_, _, _, isc_next (e := ⟨g8, K, A, B, U, G, pa, qa, ds⟩) HI.out HZ.out.1 HZb.out (B3.out.trans ((B5.out.alloc B5.out.size _).mono B3.out.size)) HK.out.1 (by rw [HLL.out]; exact HNum.out) HK.out.2.1 HK.out.2.2 ?_ H4.out.1 H4.out.2 R7.out⟩, ?_⟩
                  · exact own_below O3.out (B5.out.alloc B5.out.size _)
                  · simp only [sliceLen]
                    omega
                · have hnum' : ((g8 : Int) == (el.n : Int) + 1) = false := by simpa using (by omega : ¬ (g8 : Int) = (el.n : Int) + 1)
                  have HE := hide (fun (w' : World) (hb : Below w3.heap.size w3 w') => HEnd.out w' (B3.out.trans (hb.mono B3.out.size)) (HNo.out (fun f r hf hfo hz => by
                    obtain ⟨rfl, _⟩ := ent_one hf HK.out.1 (hz.symm.trans HK.out.2.1) (by rw [← hz]; exact HZb.out)
                    rw [HLL.out] at hfo
                    exact hnum hfo)))
                  clear hnum
                  go_wp2
                  go_ret
                  exact HE.out _ B5.out
            · have hne : ¬ (strOfNums (recO g8 E)).toList = (strOfNums (Z.take (16 + m))).toList := fun h => hEq (strOf_injL (fun z hz => by
                unfold recO at hz
                rcases List.mem_append.1 hz with h | h
                · exact headO_bd _ _ z h
                · rcases List.mem_append.1 h with h | h
                  · exact le_bdL _ _ z h
                  · exact HZb.out z (by rw [HEe.out] at h; exact List.mem_of_mem_drop (List.mem_of_mem_take h))) (fun z hz => HZb.out z (List.mem_of_mem_take hz)) h)
              have HE := hide (fun (w' : World) (hb : Below w3.heap.size w3 w') => HEnd.out w' (B3.out.trans (hb.mono B3.out.size)) (HNo.out (fun f r hf _ hz => by
                obtain ⟨_, _, _, h4, h5⟩ := ms_back HZb.out hf hz
                rw [← HM.out] at h5
                rw [← HG8.out] at h4
                rw [← h4, ← HEe.out] at h5
                exact hEq h5)))
              generalize strOfNums (recO g8 E) = S3 at hcE hne
              generalize strOfNums (Z.take (16 + m)) = S1 at hcZ hne
              have hne1 : (S3.toList == S1.toList) = false := by simpa using hne
              clear hne hEq HEnd HNo hwi
              go_wp2
              go_quiet (fail)
              go_wp2
              go_ret
              exact HE.out _ (below_drewN (Below.refl _ _) nq)
        · have HE := hide (HEnd.out _ (H1.out.2.trans (K2.out.2.mono H1.out.2.size)) (HNo.out (fun f r hf _ hz => by
            have h1 := (ms_back HZb.out hf hz).2.2.1
            rw [← HM.out, ← HEe.out] at h1
            have := (dec_isOp HD.out).2 h1
            omega)))
          clear HEnd HNo
          go_wp2_with (first | (refine wpList_store_row rfl 34 _ _ rfl w1.heap.size C8 rfl rfl 34 _ (Blk.new w1 _ _) (by rw [HCz.out]; exact infoO8) (by rw [HCz.out]; rfl) HC1.out ?_) | fail)
          go_ret
          exact HE.out
end Go.Proofs.Ythkoflpcinbgeaa
