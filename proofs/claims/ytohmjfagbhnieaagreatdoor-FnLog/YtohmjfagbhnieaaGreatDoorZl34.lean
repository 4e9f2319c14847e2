/- The iterator over the records of a log: its contract. -/
import Derived.Test.YtohmjfagbhnieaaGreatDoorZl33
namespace Go.Proofs.YtohmjfagbhnieaaGreatDoor
set_option linter.unusedVariables false
set_option linter.unusedSimpArgs false
open Go.RowKit Go.Shelf
attribute [local go_sem] Oper.semAt_some

set_option maxRecDepth 100000 in
set_option maxHeartbeats 4000000 in
theorem records1_goes (n : Nat) (hn : 1 ≤ n) (X : Nat) (a : Option Addr) (cap : Nat) (zs : List Int) (L : List EntL) (hL : ScE none zs L) (hbd : ∀ z ∈ zs, 0 ≤ z ∧ z < 256) (hz : zs.length ≤ 1048576) (w W : World)
    (hX : Boxed W X 22 (.slice a zs.length cap)) (hR : Rd .u8 w (.slice a zs.length cap) zs) (hw : Below w.heap.size w W) :
    Goes Fence.wide n Tryz.prog 46 #[.pointer (some ⟨X, 0, none⟩)] LX.enc w.heap.size (OkL L W.heap.size) (fun xs => xs.map (·.1) = L) (fun _ => True) W := by
  intro l J Jx hJ hJx hY h0
  have cX := hX.cell
  have HW := hide (And.intro hw (And.intro hR (And.intro hbd hL)))
  have HJ := hide (And.intro hJ (And.intro hJx h0))
  have HY := hide hY
  have hws := hw.size
  clear hX hw hR hbd hL hJ hJx h0 hY
  refine callsIn_of_wp Tryz.func46 rfl trivial ?_ rfl
  simp only [Tryz.ntmps46, List.size_toArray, List.length_cons, List.length_nil, Nat.reduceAdd, Nat.reduceSub, Array.replicate_succ, Array.replicate_zero, List.push_toArray, List.append_toArray, List.nil_append, List.cons_append]
  gi_wp2_with (refine ⟨trivial, ?_⟩; gi_at_call 47; fail)
  refine ⟨trivial, ?_⟩
  refine (callsIn_wide.2 (newReader_any _ zs W (HW.out.2.1.below HW.out.1))).mono ?_
  rintro e w2 ⟨rfl, r2, b2⟩
  have R2 := hide (And.intro r2 b2)
  clear r2 b2 cX
  gi_wp2_with (refine ⟨trivial, ?_⟩; gi_at_call 48; fail)
  refine ⟨trivial, ?_⟩
  refine (callsIn_wide.2 (readLogged_any W w2 W.heap.size (W.heap.size + 1) a cap zs 0 R2.out.1 HW.out.2.2.1 hz)).mono ?_
  rintro e w3 ⟨x, K, A, B, U, G, p, q, d, rv, ds, ok1, p1, lo1, rfl, r3, g3, l3, o3, m3, rd3⟩
  obtain ⟨da, dc, rfl⟩ := own_shapeL o3
  obtain ⟨ra, rn, rc, rfl⟩ : ∃ ra rn rc, rv = .slice ra rn rc := by obtain ⟨x1, x2, h1, _⟩ := rd3; exact ⟨x1, _, x2, h1⟩
  have HL := hide (logC_one (wrap64 (x : Int)) K A B U G p q da ds.length dc ra rn rc)
  have HLs := hide (show (logC (wrap64 (x : Int)) K A B U G p q (.slice da ds.length dc) (.slice ra rn rc)).size = 10 from rfl)
  have R3 := hide (And.intro r3 (And.intro g3 (And.intro l3 (And.intro o3 (And.intro m3 rd3)))))
  generalize hC : logC (wrap64 (x : Int)) K A B U G p q (.slice da ds.length dc) (.slice ra rn rc) = C at HL HLs ⊢
  have HC := hide hC
  clear hC r3 g3 l3 o3 m3 rd3
  gi_wp2_with (first | (refine wpListIn_store_new w3.heap.size w3 rfl 72 _ _ rfl w3.heap.size C rfl rfl 72 _ (Blk.new w3 _ _) (by rw [HLs.out]; exact infoLg) (by rw [HLs.out]; rfl) HL.out ((Below.refl _ _).alloc (Nat.le_refl _) _) (Nat.le_refl _) ?_; intro w4 k4 b4) | fail)
  have h2 := R2.out.2.size
  have h2' := R2.out.1.lo2
  have h3 := R3.out.2.1.size
  have b03 : Below W.heap.size W w3 := R2.out.2.grown R3.out.2.1 R2.out.2.size (fun k e => by cases e; exact Nat.le_refl _)
  have b04 : Below W.heap.size W w4 := b03.trans (b4.mono (by omega))
  have I0 := hide (show Irc w zs (.slice a zs.length cap) L J W.heap.size W.heap.size w3.heap.size ok1 p1 lo1 C [] w4 from by
    have hj := HJ.out.2.2 (fun r => r = W.heap.size ∨ r = w3.heap.size) w4 b04 (fun r hr => by have := k4.lt; omega)
    rw [← HC.out]
    refine irc_of (o := none) (okN := true) (p := 0) (w0 := W) (ds := ds) HW.out.2.2.1 hj (HW.out.1.trans (b04.mono (by omega))) HW.out.2.1 (R3.out.1.below b4) (by rw [HC.out]; exact k4) (by omega) hws (Nat.le_refl _) rfl (by simp) (by simpa using HW.out.2.2.2) R3.out.2.2.2.2.1 (fun _ => ⟨fun _ => trivial, fun _ => rfl⟩) (by simp) hj ?_ ?_ ?_
    · exact R3.out.2.2.2.2.2.below b04
    · exact own_below (own_mono R3.out.2.2.2.1 (by simp; omega)) b4
    · intro k hk
      have := R3.out.2.2.2.1.lt k hk
      omega)
  have hbc : W.heap.size < w3.heap.size := by omega
  clear k4 b4 R3 R2 HL HLs HC b03 b04 h2 h2' h3
  generalize w3.heap.size = c at I0 hbc ⊢
  generalize W.heap.size = b at I0 hbc HJ HY hws ⊢
  simp only [Act.put]
  gi_loopw [5] (fun nx wr => ∃ (ok : Bool) (p lo : Nat) (C : Array Value) (pre : List LX), Irc w zs (.slice a zs.length cap) L J b b c ok p lo C pre wr) (fun _ wr => rdM b zs.length wr)
  case atStart => exact ⟨_, _, _, _, _, I0.out⟩
  case round =>
    clear I0
    obtain ⟨ok, p, lo, C, pre, hI⟩ := hrel
    have HI := hide hI
    obtain ⟨ev, c1, hf⟩ := hI.rdr.ck.fault
    cases ok with
    | false =>
      rcases hf with ⟨hf, _⟩ | ⟨_, m, hf⟩
      · cases hf
      obtain ⟨t', x', rfl⟩ := hf.iface
      clear hf hI
      gi_wp2
      refine ⟨fun _ h => (by cases h), ?_⟩
      gi_wp2
      go_end0
      exact ⟨⟨_, rfl⟩, .inl ⟨_, pre, by rw [HI.out.same, HI.out.last rfl]; simp, HI.out.inv⟩⟩
    | true =>
      rcases hf with ⟨_, rfl⟩ | ⟨hf, _⟩
      case inr => cases hf
      obtain ⟨x, W0, hC, hj0, hok, hxo, hsc⟩ := hI.more rfl
      subst hC
      obtain ⟨⟨xn, xK, xA, xB, xU, xG, xp, xq, xs⟩, xd, xr⟩ := x
      have HC := hide (And.intro hj0 (And.intro hok (And.intro hxo hsc)))
      have k0 : wr.cell? ⟨c, 0, none⟩ = some (.int .i64 (xn : Int)) := (hI.blk.cell 0).trans rfl
      have k1 : wr.cell? ⟨c, 1, none⟩ = some (.int .i64 xK) := (hI.blk.cell 1).trans rfl
      have k2 : wr.cell? ⟨c, 2, none⟩ = some (.int .i64 xA) := (hI.blk.cell 2).trans rfl
      have k3 : wr.cell? ⟨c, 3, none⟩ = some (.int .i64 xB) := (hI.blk.cell 3).trans rfl
      have k4 : wr.cell? ⟨c, 4, none⟩ = some (.int .i64 xU) := (hI.blk.cell 4).trans rfl
      have k5 : wr.cell? ⟨c, 5, none⟩ = some (.int .i64 xG) := (hI.blk.cell 5).trans rfl
      have k6 : wr.cell? ⟨c, 6, none⟩ = some (.string xp) := (hI.blk.cell 6).trans rfl
      have k7 : wr.cell? ⟨c, 7, none⟩ = some (.string xq) := (hI.blk.cell 7).trans rfl
      have k8 : wr.cell? ⟨c, 8, none⟩ = some (xd) := (hI.blk.cell 8).trans rfl
      have k9 : wr.cell? ⟨c, 9, none⟩ = some (xr) := (hI.blk.cell 9).trans rfl
      obtain ⟨fn, tmps, assign, body, hy, hRd⟩ := HY.out _ pre (⟨xn, xK, xA, xB, xU, xG, xp, xq, xs⟩, xd, xr) W0 wr hj0 hI.inv hok
      replace hy : (Instr.yield l #[.agg #[.int .i64 (xn : Int), .int .i64 xK, .int .i64 xA, .int .i64 xB, .int .i64 xU, .int .i64 xG, .string xp, .string xq, xd, xr]]).run Tryz.prog wr = .ok (.round l fn tmps assign body) wr := hy
      have HR := hide hRd
      clear hj0 hok hxo hsc hRd hI
      gi_wp2
      refine HR.out.mono ?_
      rintro e W3 (⟨rfl, hJ3, hk3⟩ | ⟨rfl, hJx3⟩)
      · have hb3 := hk3.2 b (.inl rfl)
        have hc3 : Blk W3 c _ 72 := (hk3.2 c (.inr rfl)).trans HI.out.blk
        have ho3 := HI.out.old.trans hk3.1
        have H3 := hide (And.intro hJ3 (And.intro ho3 (And.intro (HI.out.rdr.again hb3 HW.out.2.1 ho3 HI.out.base hk3.1.size) hc3)))
        have kn : W3.cell? ⟨c, 0, none⟩ = some (.int .i64 (xn : Int)) := (hc3.cell 0).trans rfl
        have hxn := HC.out.2.2.1.1.2
        have hxn0 := HC.out.2.2.1.1.1
        simp only at hxn hxn0
        have hs3 := hc3.lt
        clear hJ3 hk3 hb3 hc3 ho3 k0 k1 k2 k3 k4 k5 k6 k7 k8 k9 hy HR c1
        gi_wp2_with (refine ⟨trivial, ?_⟩; gi_at_call 48; fail)
        clear kn
        refine ⟨trivial, ?_⟩
        refine (callsIn_wide.2 (readLogged_any (upTo W3 b) W3 b (b + 1) a cap zs p H3.out.2.2.1 HW.out.2.2.1 hz)).mono ?_
        rintro e W4 ⟨x', K', A', B', U', G', p', q', d', rv', ds', ok1, p1, lo1, rfl, r4, g4, l4, o4, m4, rd4⟩
        obtain ⟨da, dc, rfl⟩ := own_shapeL o4
        obtain ⟨ra, rn, rc, rfl⟩ : ∃ ra rn rc, rv' = .slice ra rn rc := by obtain ⟨x1, x2, h1, _⟩ := rd4; exact ⟨x1, _, x2, h1⟩
        have HL := hide (logC_one (wrap64 (x' : Int)) K' A' B' U' G' p' q' da ds'.length dc ra rn rc)
        have HLs := hide (show (logC (wrap64 (x' : Int)) K' A' B' U' G' p' q' (.slice da ds'.length dc) (.slice ra rn rc)).size = 10 from rfl)
        have k4 : Blk W4 c _ 72 := (g4.block c hs3 (by simp; omega)).trans H3.out.2.2.2
        have R4 := hide (And.intro r4 (And.intro g4 (And.intro l4 (And.intro o4 (And.intro m4 (And.intro rd4 k4))))))
        have kX := fun (W : World) (h : Blk W c (logC (wrap64 (x' : Int)) K' A' B' U' G' p' q' (.slice da ds'.length dc) (.slice ra rn rc)) 72) => (h.cell 0).trans (show (logC (wrap64 (x' : Int)) K' A' B' U' G' p' q' (.slice da ds'.length dc) (.slice ra rn rc))[0]? = some (.int .i64 (wrap64 (x' : Int))) from rfl)
        have HKX := hide kX
        clear kX
        generalize hC : logC (wrap64 (x' : Int)) K' A' B' U' G' p' q' (.slice da ds'.length dc) (.slice ra rn rc) = C5 at HL HLs HKX ⊢
        have HC5 := hide hC
        clear hC r4 g4 l4 o4 m4 rd4 k4
        gi_wp2_with (first | (refine wpListIn_store_rowL rfl 72 _ _ rfl c C5 rfl rfl 72 _ R4.out.2.2.2.2.2.2 (by rw [HLs.out]; exact infoLg) (by rw [HLs.out]; rfl) HL.out ?_) | fail)
        simp only [Act.put]
        have k5 := R4.out.2.2.2.2.2.2.row C5
        have g5 := setRow_grownL W4 c C5
        have R5 := hide (And.intro (R4.out.1.aside g5 hbc (by have := R4.out.2.2.1; omega)) (And.intro k5 g5))
        have kX5 := HKX.out _ k5
        clear k5 g5 HKX
        generalize W4.setRow c C5 = W5 at R5 kX5 ⊢
        obtain ⟨X', hX'⟩ : ∃ X', X' = wrap64 (x' : Int) := ⟨_, rfl⟩
        rw [← hX'] at kX5
        have HX' := hide hX'
        clear hX'
        have hmx : Tryz.prog.follows .mixedOrders = true := by kernel_rfl
        gi_wp2
        gi_region_with_o (first | (refine ⟨trivial, ?_⟩; gi_at_call 49; refine (callsIn_wide.2 (need_any b lo1 _ 21 ok1 _ _ (R5.out.1.ck.below ((Below.refl _ _).drew)) R5.out.1.lo1 R5.out.1.lo2)).mono ?_; rintro e W6 ⟨rfl, hc6, ht6⟩; have K6 := hide (And.intro hc6 ht6); clear hc6 ht6))
        clear kX5
        have hg4 := R4.out.2.1
        have hg5 := R5.out.2.2
        have hs4 := hg4.size
        have hs5 := hg5.size
        have ht6 := K6.out.2.1
        have r5 : Rdr (upTo W3 b) W5.drew b lo1 ok1 (.slice a zs.length cap) zs p1 := R5.out.1.below ((Below.refl _ _).drew)
        have r6 := r5.tch K6.out.1 K6.out.2
        have T6 := take_snoc (x := (⟨xn, xK, xA, xB, xU, xG, xp, xq, xs⟩, xd, xr)) HI.out.same HC.out.2.1.here
        have J6 : J (fun r => r = b ∨ r = c) (pre ++ [(⟨xn, xK, xA, xB, xU, xG, xp, xq, xs⟩, xd, xr)]) W6 := HJ.out.1 _ _ _ _ (some b) (HJ.out.1 _ _ _ _ none (HJ.out.1 _ _ _ _ (some c) (HJ.out.1 _ _ _ _ (some b) H3.out.1 hg4 (fun r e => by cases e; exact .inl rfl)) hg5 (fun r e => by cases e; exact .inr rfl)) (grown_drew W5 none) (fun r e => by cases e)) ht6 (fun r e => by cases e; exact .inl rfl)
        have B6 : Below w.heap.size w W6 := ((((H3.out.2.1.grown hg4 H3.out.2.1.size (fun k e => by cases e; exact hws)).grown hg5 (by have := H3.out.2.1.size; omega) (fun k e => by cases e; omega)).drew).grown ht6 (by have := H3.out.2.1.size; show w.heap.size ≤ W5.heap.size; omega) (fun k e => by cases e; exact hws))
        have I6 : Irc w zs (.slice a zs.length cap) L J b b c (ok1 && (X' == (xn : Int) + 1)) p1 lo1 C5 (pre ++ [(⟨xn, xK, xA, xB, xU, xG, xp, xq, xs⟩, xd, xr)]) W6 := by
          rw [← HC5.out]
          refine irc_of (o := some xn) (okN := (X' == (xn : Int) + 1)) (p := p) (w0 := upTo W3 b) (W0 := W3) (ds := ds') HW.out.2.2.1 J6 B6 HW.out.2.1 r6 ?_ hbc hws (Nat.le_refl _) T6.1 T6.2 ?_ R4.out.2.2.2.2.1 ?_ rfl H3.out.1 (r6.lift R4.out.2.2.2.2.2.1) ?_ ?_
          · rw [HC5.out]
            exact (ht6.block c (by show c < W5.heap.size; omega) (by simp; omega)).trans R5.out.2.1
          · rw [List.length_append]
            exact HC.out.2.2.2
          · intro h1
            rcases R4.out.2.2.2.2.1 with ⟨_, he, _⟩ | ⟨h0, _⟩
            · have hx := he.1
              rw [HX'.out]
              unfold folE
              simp only at hx ⊢
              rw [beq_iff_eq]
              unfold wrap64
              omega
            · rw [h0] at h1; cases h1
          · rw [if_neg (by simp)]
            exact own_asideE (own_below (own_asideE R4.out.2.2.2.1 hg5 hs3) ((Below.refl _ _).drew)) ht6 (by omega)
          · intro k hk
            have := (R4.out.2.2.2.1.lt k hk).1
            omega
        have M6 := rcM I6
        have M0 := rcM HI.out
        have HI6 := hide I6
        have HM := hide (show rdM b zs.length W6 < rdM b zs.length wr from by
          rw [M6, M0]
          cases hq : (ok1 && (X' == (xn : Int) + 1)) with
          | false => simp
          | true =>
            simp
            rcases R4.out.2.2.2.2.1 with ⟨_, _, _, h4, h5⟩ | ⟨h0, _⟩
            · have := raw_pos ⟨x', K', A', B', U', G', p', q', ds'⟩
              have := HI.out.rdr.le
              omega
            · rw [h0] at hq; simp at hq)
        clear M6 M0 I6 J6 B6 T6 r6 r5 ht6 hg4 hg5 hs4 hs5
        go_roundw
        case rel => exact ⟨_, _, _, _, _, _, _, _, _, _, _, _, _, _, _, _, _, _, _, _, _, _, _, _, _, _, _, ⟨_, _, _, _, _, HI6.out⟩, rfl⟩
        case measure => exact HM.out
      · have HX := hide hJx3
        clear hJx3
        gi_wp2
        go_end0
        exact ⟨⟨_, rfl⟩, .inr ⟨_, _, trivial, HX.out⟩⟩
end Go.Proofs.YtohmjfagbhnieaaGreatDoor
