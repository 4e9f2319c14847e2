/- The law on logs: the loop that draws operations and lays their records down. -/
import Derived.Test.YtohmjfagbhnieaaGreatDoorZl46
import Derived.Maps.AppendAt
import Derived.BigQuiet
import Derived.Deep.DeepCutAuto
import Derived.Deep.RegionHeld3
namespace Go.Proofs.YtohmjfagbhnieaaGreatDoor
set_option linter.unusedVariables false
set_option linter.unusedSimpArgs false
open Go.RowKit

theorem wpList_build1L {P : Program} {ops : Array Oper} {rest : List Oper} {o : Oper} {a : Act} {w : World} {Q : Exit → Act → World → Prop} (hgd : o.guard = none) (t e : TypeId) (x : Operand) (ho : o.op = .buildSlice t 1 #[(0, x)]) (cells : Array Value) (hx : a.eval x = .agg cells) (i : TypeInfo) (z : Value)
    (hu : P.underlying t = some (.slice e)) (hi : P.info? e = some i) (hz : i.zero = some z) (hs : i.size = cells.size) (hp : 0 < cells.size) (hl : cells.size ≤ 1000)
    (h : wpList P ops Q rest (a.put o.dst (.slice (some ⟨w.heap.size, 0, none⟩) 1 1)) (w.alloc (.cells cells e))) : wpList P ops Q (o :: rest) a w := by
  have hf : Instr.fill (fun j => some (j * i.size, i.size)) ((Array.range (1 * i.size)).map (z.cells[· % z.cells.size]!)) [(0, Value.agg cells)] = some cells := by
    have := Great.fill_whole (s := i.size) (by omega) [.agg cells] ((Array.range (1 * i.size)).map (z.cells[· % z.cells.size]!)) (by intro v hv; simp at hv; subst hv; exact hs.symm) (by simp)
    simpa [Value.cells] using this
  have he : ((#[(0, x)] : Array (Nat × Operand)).map (fun p => (p.1, a.eval p.2))).toList = [(0, Value.agg cells)] := by simp [hx]
  exact wpList_buildSlice hgd t e 1 _ ho cells i z hu hi hz (by omega) (by omega) (by rw [← he] at hf; exact hf) h
theorem one_i64L (z : Int) : ∀ u ∈ [Value.int .i64 z], u.oneCell' = true := by
  intro u hu
  rw [List.mem_singleton] at hu
  subst hu
  rfl
theorem FL3.start {w w2 : World} {cv : Value} {cs : List Int} (h : Sc w w2 w.heap.size cv cs) :
    FL3 w (((w2.alloc (.cells #[] 5)).alloc (.cells #[.int .i64 0] 3)).alloc (.cells #[] 30)) w.heap.size cv cs [] [0] [] (.slice (some ⟨w2.heap.size, 0, none⟩) 0 0) (.slice (some ⟨w2.heap.size + 1, 0, none⟩) 1 1) (.slice (some ⟨w2.heap.size + 1 + 1, 0, none⟩) 0 0) [] := by
  have hlt := h.src.lt
  have b1 : Below w2.heap.size w2 (w2.alloc (.cells #[] 5)) := (Below.refl _ _).alloc (Nat.le_refl _) _
  have b2 : Below (w2.heap.size + 1) (w2.alloc (.cells #[] 5)) ((w2.alloc (.cells #[] 5)).alloc (.cells #[.int .i64 0] 3)) := (Below.refl _ _).alloc (by simp) _
  have b3 : Below (w2.heap.size + 1 + 1) ((w2.alloc (.cells #[] 5)).alloc (.cells #[.int .i64 0] 3)) (((w2.alloc (.cells #[] 5)).alloc (.cells #[.int .i64 0] 3)).alloc (.cells #[] 30)) := (Below.refl _ _).alloc (by simp) _
  refine ⟨?_, ?_, ?_, ?_, fun u hu => (by cases hu)⟩
  · exact h.own (b1.trans ((b2.mono (by omega)).trans (b3.mono (by omega)))) hlt
  · have o1 := own_emptyL w2 5 1
    exact own_mono (own_below (own_below o1 (by simpa using b2)) (by simpa using b3)) (by omega)
  · have o2 := World.ownsRow_lit (base := w2.heap.size + 1) (e := 3) (size := 1) (w2.alloc (.cells #[] 5)) #[.int .i64 0] 1 (by simp) (by unfold maxLen; omega) (by simp)
    rw [World.size_alloc] at o2
    exact own_mono (own_below o2 (by simpa using b3)) (by omega)
  · have o3 := OwnN.empty ((w2.alloc (.cells #[] 5)).alloc (.cells #[.int .i64 0] 3)) 30 7
    rw [World.size_alloc, World.size_alloc] at o3
    exact o3.mono (by omega)

set_option maxRecDepth 1000000 in
set_option maxHeartbeats 40000000 in
theorem lawLog (v0 : Value) (cs : List Int) (w : World) (h : Rd .u8 w v0 cs) (hbd : ∀ z ∈ cs, 0 ≤ z ∧ z < 256) (hg : ErrT w) :
    Calls Tryz.prog 3 #[v0] w (fun e w' => e = .returned (.bool true) ∧ Below w.heap.size w w') := by
  obtain ⟨i0, hi, hz0, hz1, hz2⟩ := info_parts infoOpL
  obtain ⟨i1, hi1, hy0, hy1, hy2⟩ := info_parts infoU8
  obtain ⟨i2, hi2, hx0, hx1, hx2⟩ := info_parts infoI64L
  have hm := h.len
  unfold maxLen at hm
  obtain ⟨a0, cap0, rfl⟩ : ∃ a cap, v0 = .slice a cs.length cap := by obtain ⟨a, cap, e, _⟩ := h; exact ⟨a, cap, e⟩
  have H := hide (And.intro h (And.intro hbd hg))
  clear h hbd hg
  by_cases hbig : (1048576 : Int) < (cs.length : Int)
  · go_enter Tryz.func3, Tryz.ntmps3
    go_wp2
    go_ret
    exact ⟨rfl, Below.refl _ _⟩
  · have hsm : cs.length ≤ 1048576 := by omega
    go_enter Tryz.func3, Tryz.ntmps3
    go_wp2_with fail
    refine (draw_any _ cs _ H.out.1 hsm).mono ?_
    rintro e w1 ⟨rfl, hs1, hb1, _⟩
    have S1 := hide (show Sc w w1 w.heap.size (.slice a0 cs.length cap0) cs from ⟨hs1, Nat.le_refl _, hb1, H.out.1, H.out.2.1, hsm⟩)
    clear hs1 hb1
    go_wp2_with fail
    refine (S1.out.N 100 (by omega) (by omega)).mono ?_
    rintro e w2 ⟨z, rfl, hza, hzb, s2, d2⟩
    obtain ⟨fr, hfr⟩ : ∃ fr : Nat, (1 : Int) + z = (fr : Int) := ⟨(1 + z).toNat, by omega⟩
    have hfr1 : 1 ≤ fr := by omega
    have hfr2 : fr ≤ 100 := by omega
    have F0 := hide (FL3.start s2)
    clear S1 s2 d2
    go_wp2_with fail
    refine (size_nine _ cs _ (H.out.1.below (F0.out.sc.low)) hsm).mono ?_
    rintro e w3 ⟨r, rfl, hr1, hr2, b3⟩
    have F1 := hide (F0.out.below b3)
    clear F0 b3
    go_wp2_with fail
    refine (F1.out.sc.N r (by omega) (by omega)).mono ?_
    rintro e w4 ⟨m0, rfl, hm0, hm1, s4, d4⟩
    have F2 := hide (F1.out.draw s4 d4)
    clear F1 s4 d4
    go_wp2
    go_loopw [5, 6, 7, 8] (fun vl ve vo kv wr => ∃ (m : Nat) (E : List EntL) (vs : List Value) (la : Option Addr) (lc : Nat) (ea : Option Addr) (ec : Nat) (oa : Option Addr) (oc : Nat), kv = .int .i64 m ∧ E.length + m ≤ 9 ∧ vl = .slice la (rawsE E).length lc ∧ ve = .slice ea (E.length + 1) ec ∧ vo = .slice oa E.length oc ∧ FL3 w wr w.heap.size (.slice a0 cs.length cap0) cs (rawsE E) (endsE E) (E.map neO) vl ve vo vs ∧ EG fr E) (fun _ _ _ kv _ => (intOf kv).toNat)
    case atStart => exact ⟨(1 + m0).toNat, [], [], _, _, _, _, _, _, by rw [Int.toNat_of_nonneg (by omega)], by simp; omega, rfl, rfl, rfl, F2.out, EG.nil _⟩
    case round =>
      clear F2
      obtain ⟨m, E, vs, la, lc, ea, ec, oa, oc, rfl, hEm, rfl, rfl, rfl, hF, hE⟩ := hrel
      have HF := hide hF
      have HE := hide hE
      clear hF hE
      by_cases hmz : 0 < m
      · have hmp : (0 : Int) < (m : Int) := by omega
        obtain ⟨RL, hRL⟩ : ∃ RL, RL = (rawsE E).length := ⟨_, rfl⟩
        obtain ⟨EL, hEL⟩ : ∃ EL, EL = E.length := ⟨_, rfl⟩
        have hEm2 : EL + m ≤ 9 := by omega
        have HRL := hide hRL
        have HEL := hide hEL
        rw [← hRL, ← hEL] at HF ⊢
        clear hRL hEL hEm
        go_wp2_with fail
        refine (specNew_any _).mono ?_
        rintro e w5 ⟨D, rfl, kD, hD, b5⟩
        have F5 := hide (HF.out.below b5)
        have KD := hide (And.intro kD (show D ≠ w.heap.size by have := HF.out.sc.src.lt; omega))
        have L0 := hide HF.out
        have Z5 := hide b5.size
        clear kD hD b5
        go_wp2_with fail
        refine (op_drawn F5.out.sc KD.out.1 KD.out.2).mono ?_
        rintro e w6 ⟨K, A, B, U, G, pa, qa, v, rfl, hK0, hK1, fO, s6, d6⟩
        obtain ⟨va, vn, vc, rfl⟩ : ∃ a n c, v = .slice a n c := by obtain ⟨_, _, _, _, zs, _, _, ho⟩ := fO; obtain ⟨a, c, e⟩ := shape_row ho; exact ⟨a, _, c, e⟩
        have F6 := hide (F5.out.draw s6 d6)
        have O6 := hide fO
        clear F5 KD s6 d6 fO
        go_wp2_with fail
        refine (named15 K A B U G pa qa va vn vc _ hK0 hK1).mono ?_
        rintro e w7 ⟨A', B', q', v', rfl, hk, b7⟩
        obtain ⟨hA, hB, hp, hq, ds, hdl, hdB, hdo⟩ := kept_data O6.out hk
        obtain ⟨da, dc, rfl⟩ := shape_row hdo
        have F7 := hide (F6.out.below b7)
        have D7 := hide (And.intro (own_below hdo b7) (And.intro hdB (And.intro hA hB)))
        clear F6 O6 hk b7 hdo hdB hA hB
        obtain ⟨dl, hdlE⟩ : ∃ dl, dl = ds.length := ⟨_, rfl⟩
        have HDL := hide hdlE
        rw [← hdlE] at D7 hdl ⊢
        clear hdlE
        have C7 := hide (opC_one1 K A' B' 0 0 pa q' da dl dc)
        have B8 := hide (show Below w7.heap.size w7 ((w7.alloc (.cells zeroOp 30)).setRow w7.heap.size (opC K A' B' 0 0 pa q' (.slice da dl dc))) from below_setRow ((Below.refl _ _).alloc (Nat.le_refl _) _) (Nat.le_refl _) _)
        have K8 := hide (show Blk ((w7.alloc (.cells zeroOp 30)).setRow w7.heap.size (opC K A' B' 0 0 pa q' (.slice da dl dc))) w7.heap.size (opC K A' B' 0 0 pa q' (.slice da dl dc)) 30 from (Blk.new w7 zeroOp 30).row _)
        have KN := hide (Blk.new w7 zeroOp 30)
        have F8 := hide (F7.out.below B8.out)
        have D8 := hide (own_below D7.out.1 B8.out)
        go_wp2_with (first
          | (refine wpList_store_row rfl 30 _ _ rfl w7.heap.size (opC K A' B' 0 0 pa q' (.slice da dl dc)) rfl rfl 30 zeroOp KN.out infoO8 rfl C7.out ?_)
          | (refine wpList_load_row rfl 30 _ rfl w7.heap.size rfl 30 (opC K A' B' 0 0 pa q' (.slice da dl dc)) (0, 0) _ K8.out Tryz.underlying30 rfl infoO8 ?_)
          | fail)
        refine (implLR_any ((fr : Int) + (EL : Int)) K A' B' 0 0 pa q' (.slice da dl dc) ds _ (Rd.own (by have := HDL.out; subst this; exact D8.out)) D7.out.2.1 (by unfold maxLen; omega) (by unfold maxLen; omega) (H.out.2.2.below F8.out.sc.low)).mono ?_
        rintro e w9 ⟨vb, rfl, ob, b9⟩
        have F9 := hide (F8.out.below b9)
        have D9 := hide (own_below D8.out b9)
        have K9 := hide (K8.out.below b9 K8.out.lt)
        have OB := hide (own_mono ob (show w.heap.size + 1 ≤ _ from F8.out.sc.src.lt))
        have OBn := hide ob
        clear ob b9
        have hnn : (fr : Int) + (EL : Int) = ((fr + EL : Nat) : Int) := by omega
        rw [hnn, codeLR_eo (by omega) (by omega)]
        have HNN := hide hnn
        clear hnn
        rw [show codeEO K 0 0 pa q' ds.length = codeEO K 0 0 pa q' dl by rw [HDL.out]]
        go_wp2_with (first
          | (refine wpList_load_row rfl 30 _ rfl w7.heap.size rfl 30 (opC K A' B' 0 0 pa q' (.slice da dl dc)) (0, 0) _ K9.out Tryz.underlying30 rfl infoO8 ?_)
          | fail)
        refine (specEO_any K A' B' 0 0 pa q' (.slice da dl dc) ds _ (Rd.own (by have := HDL.out; subst this; exact D9.out)) (by unfold maxLen; omega) (by unfold maxLen; omega)).mono ?_
        rintro e w10 ⟨ve2, rfl, oe, b10⟩
        have F10 := hide (F9.out.below b10)
        have D10 := hide (own_below D9.out b10)
        have K10 := hide (K9.out.below b10 K9.out.lt)
        have OB1 := hide (own_below OB.out b10)
        clear oe b10
        rw [show codeEO K 0 0 pa q' ds.length = codeEO K 0 0 pa q' dl by rw [HDL.out]]
        cases hr : rightO K 0 0 pa q' dl with
        | false =>
          rw [show codeEO K 0 0 pa q' dl = 7 by simp [codeEO, hr]]
          go_wp2
          go_roundw
          case rel => exact ⟨m - 1, E, vs, la, lc, ea, ec, oa, oc, by go_num, by have := HEL.out; omega, by rw [HRL.out], by rw [HEL.out], by rw [HEL.out], F10.out, HE.out⟩
          case measure => simp [intOf]; omega
        | true =>
          rw [show codeEO K 0 0 pa q' dl = 0 by simp [codeEO, hr]]
          obtain ⟨en, hen⟩ : ∃ en : EntL, en = ⟨fr + EL, K, A', B', 0, 0, pa, q', ds⟩ := ⟨_, rfl⟩
          have hok : en.ok := by rw [hen]; exact ⟨⟨by show 1 ≤ fr + EL; omega, by show fr + EL ≤ 1099511627776; omega⟩, by rw [← HDL.out]; exact hr, D7.out.2.2.1, D7.out.2.2.2⟩
          have hRw : encL ((fr : Int) + (EL : Int)) K A' B' 0 0 pa q' ds = en.raw := by rw [HNN.out, hen]; exact encL_raw (by omega) (by omega) (by rw [← HDL.out]; exact hr)
          have hRb : ∀ z ∈ en.raw, 0 ≤ z ∧ z < 256 := raw_bd (by rw [hen]; exact D7.out.2.1)
          have hR45 : 45 ≤ en.raw.length ∧ en.raw.length ≤ 6000 := by rw [en.raw_len, hen]; exact ⟨by show 45 ≤ 45 + pa.size + q'.size + ds.length; omega, by show 45 + pa.size + q'.size + ds.length ≤ 6000; have := HDL.out; omega⟩
          have hen1 : en.n = fr + E.length := by rw [hen, ← HEL.out]
          have hen2 : neO en = ([.int .i64 K, .int .i64 A', .int .i64 B', .int .i64 0, .int .i64 0, .string pa, .string q'], ds) := by rw [hen]; rfl
          obtain ⟨R, hR⟩ : ∃ R, R = en.raw := ⟨_, rfl⟩
          rw [hRw, ← hR] at OB1
          rw [← hR] at hR45
          have HEN := hide (And.intro hok (And.intro hRb (And.intro hen1 (And.intro hen2 hR))))
          clear hok hRw hRb hen1 hen2 hen hR hr OB OBn
          obtain ⟨gb, cb, hvb⟩ := place_row OB1.out (by omega)
          subst hvb
          have BA := hide (show Below w10.heap.size w10 (w10.alloc (.cells (opC K A' B' 0 0 pa q' (.slice da dl dc)) 30)) from (Below.refl _ _).alloc (Nat.le_refl _) _)
          have FA := hide (F10.out.below BA.out)
          have OBA := hide (own_below OB1.out BA.out)
          have DA := hide (own_below D10.out BA.out)
          have ROA := hide (show (w10.alloc (.cells (opC K A' B' 0 0 pa q' (.slice da dl dc)) 30)).ownsRow (w.heap.size + 1) 30 8 (.slice oa EL oc) EL (cellsN vs (E.map neO)) by have := FA.out.ops.row; rw [List.length_map, ← HEL.out] at this; exact this)
          have CN := hide (cells_newO w10 (opC K A' B' 0 0 pa q' (.slice da dl dc)) 30)
          have C1 := hide (opC_oneL K A' B' pa q' da dl dc)
          have hsz10 : w.heap.size + 1 ≤ w10.heap.size := F10.out.sc.src.lt
          have HSE := hide (show ((rawsE E).length : Nat) = RL from HRL.out.symm)
          have hRLb : RL ≤ 60000 := by rw [HRL.out]; exact raws_short HE.out.oks (by have := HEL.out; omega)
          go_upto_region 18 with (first
            | (refine wpList_load_row rfl 30 _ rfl w7.heap.size rfl 30 (opC K A' B' 0 0 pa q' (.slice da dl dc)) (0, 0) _ K10.out Tryz.underlying30 rfl infoO8 ?_)
            | (refine wpList_build1L rfl 27 30 _ rfl (opC K A' B' 0 0 pa q' (.slice da dl dc)) rfl i0 _ Tryz.underlying27 hi hz0 hz1 (by show 0 < 8; omega) (by show 8 ≤ 1000; omega) ?_)
            | (at_builtin; refine wpList_append_own_at _ rfl (.tmp 65) (.tmp 67) 27 rfl (w.heap.size + 1) 30 i0 (.agg zeroOp) 8 96 Tryz.underlying27 hi hz0 hz1 hz2 rfl (by decide) (.slice oa EL oc) EL (cellsN vs (E.map neO)) rfl ROA.out ⟨w10.heap.size, 0, none⟩ 1 1 (opC K A' B' 0 0 pa q' (.slice da dl dc)).toList rfl rfl CN.out C1.out (by unfold maxLen; omega) (by omega) (by simp; omega) ?_; intro v11 w11 o11 g11 _ _; obtain ⟨oa2, oc2, rfl⟩ := shape_row o11; have O11 := hide (And.intro o11 g11); clear o11 g11)
            | fail)
          have F11 := hide (FA.out.pushO (neO en) (by rw [HEN.out.2.2.2.1]; rfl) (by rw [HEN.out.2.2.2.1]; show World.ownsRow _ _ _ _ _ ds.length _; rw [← HDL.out]; exact own_mono DA.out (by have := HF.out.sc.src.lt; have := Z5.out; omega)) (fun k hk => by
            have hk5 := (DA.out.lt k hk).1
            have hz5 := Z5.out
            exact ⟨fun e => by have := (L0.out.log.lt k e).2; omega, fun u' hu' e => by have := (L0.out.vs_lt hu' e).2; omega⟩) (by rw [List.length_map, ← HEL.out, HEN.out.2.2.2.1]; exact O11.out.1) O11.out.2)
          have OB11 := hide (OBA.out.kept O11.out.2 (own_apart OBA.out FA.out.ops.row neOp_ne.symm))
          have CB := hide (own_cellsU OB11.out)
          have RL11 := hide (show w11.ownsRow (w.heap.size + 1) 5 1 (.slice la RL lc) RL ((rawsE E).map (Value.int .u8)) by have := F11.out.log; rw [← HRL.out] at this; exact this)
          have hsz11 : w.heap.size + 1 ≤ w11.heap.size := F11.out.sc.src.lt
          clear FA OBA DA ROA CN C1 O11 BA
          go_upto_region 19 with (first
            | (at_builtin; refine wpList_append_own_at _ rfl (.tmp 69) (.tmp 70) 22 rfl (w.heap.size + 1) 5 i1 (.int .u8 0) 1 1 Tryz.underlying22 hi1 hy0 hy1 hy2 rfl (by decide) (.slice la RL lc) RL ((rawsE E).map (Value.int .u8)) rfl RL11.out ⟨gb, 0, none⟩ R.length cb (R.map (Value.int .u8)) rfl (by simp) CB.out (ints_oneCell _ _) (by unfold maxLen; omega) (by omega) (by omega) ?_; intro v12 w12 o12 g12 _ a12; obtain ⟨la2, lc2, rfl⟩ := shape_row o12; have O12 := hide (And.intro o12 (And.intro g12 a12)); clear o12 g12 a12)
            | fail)
          have F12 := hide (F11.out.pushL R (by rw [← HRL.out]; exact O12.out.1) O12.out.2.1 O12.out.2.2)
          have BE := hide (show Below w12.heap.size w12 (w12.alloc (.cells #[.int .i64 ((RL + R.length : Nat) : Int)] 3)) from (Below.refl _ _).alloc (Nat.le_refl _) _)
          have FE := hide (F12.out.below BE.out)
          have RE := hide (show (w12.alloc (.cells #[.int .i64 ((RL + R.length : Nat) : Int)] 3)).ownsRow (w.heap.size + 1) 3 1 (.slice ea (EL + 1) ec) (EL + 1) ((endsE E).map (Value.int .i64)) by have := FE.out.ends; rw [endsE_len, ← HEL.out] at this; exact this)
          have hsz12 : w.heap.size + 1 ≤ w12.heap.size := F12.out.sc.src.lt
          clear F11 OB11 CB RL11 O12
          go_wp2_with (first
            | (at_builtin; refine wpList_append_own_at _ rfl (.tmp 72) (.tmp 75) 26 rfl (w.heap.size + 1) 3 i2 (.int .i64 0) 1 8 Tryz.underlying26 hi2 hx0 hx1 hx2 rfl (by decide) (.slice ea (EL + 1) ec) (EL + 1) ((endsE E).map (Value.int .i64)) rfl RE.out ⟨w12.heap.size, 0, none⟩ 1 1 [.int .i64 ((RL + R.length : Nat) : Int)] rfl rfl (cell_one_new _ _ _) (one_i64L _) (by unfold maxLen; omega) (by omega) (by simp; omega) ?_; intro v13 w13 o13 g13 _ _; obtain ⟨ea2, ec2, rfl⟩ := shape_row o13; have O13 := hide (And.intro o13 g13); clear o13 g13)
            | fail)
          have F13 := hide (FE.out.pushE ((RL + R.length : Nat) : Int) (by rw [endsE_len, ← HEL.out]; exact O13.out.1) O13.out.2)
          have HG := hide (HE.out.snoc en HEN.out.2.2.1 HEN.out.1 HEN.out.2.1)
          have HX := hide (show rawsE (E ++ [en]) = rawsE E ++ R ∧ endsE (E ++ [en]) = endsE E ++ [((RL + R.length : Nat) : Int)] ∧ (E ++ [en]).map neO = E.map neO ++ [neO en] from ⟨by rw [rawsE_app, rawsE_one, HEN.out.2.2.2.2], by rw [endsE_snoc, rawsE_app, rawsE_one, List.length_append, HRL.out, HEN.out.2.2.2.2], by simp⟩)
          clear F12 FE RE O13 BE
          go_roundw
          case rel => exact ⟨m - 1, E ++ [en], vs ++ [.slice da dl dc], la2, lc2, ea2, ec2, oa2, oc2, by go_num, by rw [List.length_append, List.length_singleton]; have := HEL.out; omega, by rw [HX.out.1, List.length_append, ← HRL.out], by rw [List.length_append, List.length_singleton, ← HEL.out], by rw [List.length_append, List.length_singleton, ← HEL.out], by rw [HX.out.1, HX.out.2.1, HX.out.2.2]; exact F13.out, HG.out⟩
          case measure => simp [intOf]; omega
      · have hm0 : ¬ (0 : Int) < (m : Int) := by omega
        go_upto_region 20 with fail
        exact log_top w _ (.slice a0 cs.length cap0) cs fr E.length (rawsE E).length E la lc ea ec oa oc vs HF.out HE.out rfl rfl (by omega) H.out.2.2 hfr1 hfr2 _ _ _ _ _ _ _ _ _ _ _ _ _ _ _ _ _ _ _ _ _ _ _ _ _ _ _ _ _ _ _ _ _ _ _ _ _ _ _ _ _ _ _ _ _ _ _ _ _ _ _ _ _ _ _ _ _ _ _ _ _ _ _ _ _ _ _ _ _ _ _ _ _ _ _ _ _ _ _ _ _ _ _ _ _ _ _ _ _ _ _ _ _ _ _ _ _ _ _ _ _ _ _ _ _ _ _ _ _ _ _ _ _ _ _ _ _ _ _ _ _ _ _ _ _ _ _ _ _ _ _ _ _ _ _ _ _ _ _ _ _ _ _ _ _ _ _ _ _ _ _ _ _ _ _ _ _ _ _ _ _ _ _ _ _ _ _ _ _ _ _ _ _ _ _ _ _ _ _ _ _ _ _ _ _ _ _ _ _ _ _ _ _ _ _ _ _ _ _ _ _ _ _ _ _ _ _ _ _ _ _ _ _ _ _ _ _ _ _ _ _ _ _ _ _ _ _ _ _ _ _ _ _ _ _ _ _ _ _ _ _ _ _ _ _ _ _ _ _ _ _ _ _ _ _ _ (by assumption)
end Go.Proofs.YtohmjfagbhnieaaGreatDoor
