/- EncodeSnap of the model: the bytes. -/
import Derived.Test.YtfkmnmopkblopaaGreatDoorZs32
import Derived.Test.YtfkmnmopkblopaaGreatDoorZs22
import Derived.Lib.ConvBytes
import Derived.Lib.SmallJoins
namespace Go.Proofs.YtfkmnmopkblopaaGreatDoor
set_option linter.unusedVariables false
set_option linter.unusedSimpArgs false
open Go.RowKit

theorem wp_convert_sb {P : Program} {o : Oper} {a : Act} {w : World} {K : Act → World → Prop} {Q : Exit → Act → World → Prop} (src dst e : TypeId) (x : Operand) (ho : o.op = .convert src dst x) (s : ByteArray) (hx : a.eval x = .string s)
    (hs : P.underlying src = some .string) (hd : P.underlying dst = some (.slice e)) (he : P.underlying e = some (.int .u8))
    (h : K (a.put o.dst (.slice (some ⟨w.heap.size, 0, none⟩) s.size (grownCap w s.size 0 e))) (Go.Lib.bytesWorld w e s)) : o.wp P a w K Q := by
  unfold Oper.wp execOp
  simp only [ho, hx, Sem.run_bind, Sem.run_pure, Result.andThen_ok, Go.Lib.run_convert_string_bytes w src dst e s hs hd he]
  exact h
theorem rd_bytesWorld (w : World) (s : ByteArray) (hs : s.size ≤ maxLen) : Rd .u8 (Go.Lib.bytesWorld w 5 s) (.slice (some ⟨w.heap.size, 0, none⟩) s.size (grownCap w s.size 0 5)) (strInts s) := by
  refine ⟨some ⟨w.heap.size, 0, none⟩, grownCap w s.size 0 5, by rw [strInts_len], by rw [strInts_len]; exact hs, fun _ => ⟨w.heap.size, 0, rfl, by rw [Go.Lib.bytesWorld_size]; omega, fun i hi => ?_⟩, by rw [strInts_len]; exact grownCap_ge _ _ _ _, grownCap_le_maxLen _ _ _ _ hs⟩
  rw [strInts_len] at hi
  rw [Nat.zero_add, Go.Lib.bytesWorld_cell w _ s i hi]
  unfold strInts
  have hl : i < s.data.size := hi
  simp only [List.getD_eq_getElem?_getD, List.getElem?_map, Array.getElem?_toList, Array.getElem?_eq_getElem hl, Option.map_some, Option.getD_some]
theorem fill_pos (v : Value) (zs : List Int) (n : Nat) (w : World) (h : Rd .u8 w v zs) (h0 : 0 < zs.length) (h1 : zs.length ≤ n) (h2 : n ≤ 100000) :
    Calls Tryz.prog 41 #[v, .int .i64 n] w fun e w' => ∃ g cp, e = .returned (.slice (some ⟨g, 0, none⟩) n cp) ∧ w'.ownsRow w.heap.size 5 1 (.slice (some ⟨g, 0, none⟩) n cp) n ((zs ++ List.replicate (n - zs.length) 0).map (Value.int .u8)) ∧ Below w.heap.size w w' := by
  refine (fill_any v zs n w h h0 h1 h2).mono ?_
  rintro e w' ⟨v', rfl, ho, hb⟩
  rcases ho.2 with ⟨rfl, hn0⟩ | ⟨g, cap, cur, rfl, _⟩
  · omega
  · exact ⟨g, cap, rfl, ho, hb⟩
theorem join_snap (a : Nat) (nm : ByteArray) (b c : Nat) (s : Int) (ds : List Int) (p q : Int) (hn : nm.size ≤ 26) : ([([snapLet, le 1 a, le 1 nm.size, strInts nm ++ List.replicate (26 - (strInts nm).length) 0, le 4 0] : List (List Int)).flatten, le 8 b, le 8 c, bytesR s ds p q] : List (List Int)).flatten = bytesS a nm b c s ds p q := by
  have e : (List.replicate (26 - (strInts nm).length) 0 : List Int) ++ le 4 0 = List.replicate (40 - (10 + nm.size)) 0 := by
    rw [strInts_len, show le 4 0 = List.replicate 4 0 from rfl, List.replicate_append_replicate]
    congr 1
    omega
  unfold bytesS
  rw [← e]
  simp only [List.flatten_cons, List.flatten_nil, List.append_nil, List.append_assoc]


/-- A slice of n bytes with an address, that reads so. -/
def Sl (n : Nat) (lst : List Int) (v : Value) (w : World) : Prop := (∃ g cp, v = .slice (some ⟨g, 0, none⟩) n cp) ∧ Rd .u8 w v lst
theorem Sl.below {n : Nat} {lst : List Int} {v : Value} {w w' : World} (h : Sl n lst v w) (hb : Below w.heap.size w w') : Sl n lst v w' := ⟨h.1, h.2.below hb⟩
/-- What the values of the region that lays the first part are. -/
def VS (B b : Nat) (A : Nat) (nm : ByteArray) (i : Nat) (v : Value) (w : World) : Prop := match i with
  | 0 => ∃ g, v = .slice (some ⟨g, 0, none⟩) 8 8 ∧ B ≤ g ∧ g < w.heap.size ∧ Rd .u8 w v snapLet ∧ ∃ fr, w.heap[g]? = some (.cells #[.int .u8 115, .int .u8 110, .int .u8 97, .int .u8 112, .int .u8 115, .int .u8 104, .int .u8 111, .int .u8 116] 5 fr)
  | 1 => Sl 8 snapLet v w
  | 2 => v = .pointer (some ⟨b, 0, none⟩)
  | 3 => v = .int .i64 (A : Int)
  | 4 => Sl 1 (le 1 A) v w
  | 5 => v = .pointer (some ⟨b, 1, none⟩)
  | 6 => v = .string nm
  | 7 => v = .int .i64 (nm.size : Int)
  | 8 => Sl 1 (le 1 nm.size) v w
  | 9 => v = .pointer (some ⟨b, 1, none⟩)
  | 10 => v = .string nm
  | 11 => Rd .u8 w v (strInts nm)
  | 12 => Sl 26 (strInts nm ++ List.replicate (26 - (strInts nm).length) 0) v w
  | 13 => Sl 4 (le 4 0) v w
  | 14 => ∃ g, v = .slice (some ⟨g, 0, none⟩) 5 5 ∧ g < w.heap.size ∧ ∃ vs, (∀ j u, vs[j]? = some u → w.cell? ⟨g, j, none⟩ = some u) ∧ AllRd w vs [snapLet, le 1 A, le 1 nm.size, strInts nm ++ List.replicate (26 - (strInts nm).length) 0, le 4 0]
  | 15 => Rd .u8 w v ([snapLet, le 1 A, le 1 nm.size, strInts nm ++ List.replicate (26 - (strInts nm).length) 0, le 4 0] : List (List Int)).flatten
  | 16 => Rd .u8 w v ([snapLet, le 1 A, le 1 nm.size, strInts nm ++ List.replicate (26 - (strInts nm).length) 0, le 4 0] : List (List Int)).flatten
  | _ => False
theorem VS.below {B b A : Nat} {nm : ByteArray} {w w' : World} (hb : Below w.heap.size w w') : ∀ (j : Nat) (u : Value), VS B b A nm j u w → VS B b A nm j u w'
  | 0, _, ⟨g, h1, h2, h3, h4, h5⟩ => ⟨g, h1, h2, Nat.lt_of_lt_of_le h3 hb.size, h4.below hb, by rw [hb.block g h3]; exact h5⟩
  | 1, _, h => Sl.below h hb
  | 2, _, h => h
  | 3, _, h => h
  | 4, _, h => Sl.below h hb
  | 5, _, h => h
  | 6, _, h => h
  | 7, _, h => h
  | 8, _, h => Sl.below h hb
  | 9, _, h => h
  | 10, _, h => h
  | 11, _, h => Rd.below h hb
  | 12, _, h => Sl.below h hb
  | 13, _, h => Sl.below h hb
  | 14, _, ⟨g, h1, h2, vs, h3, h4⟩ => ⟨g, h1, Nat.lt_of_lt_of_le h2 hb.size, vs, fun j u hu => (hb.cell (p := ⟨g, j, none⟩) h2).trans (h3 j u hu), h4.below hb⟩
  | 15, _, h => Rd.below h hb
  | 16, _, h => Rd.below h hb
  | _ + 17, _, h => h
theorem VS.freeze {B b A : Nat} {nm : ByteArray} {w : World} (g' m : Nat) : ∀ (j : Nat) (u : Value), VS B b A nm j u w → VS B b A nm j u (w.freeze ⟨g', m, none⟩ 1)
  | 0, _, ⟨g, h1, h2, h3, h4, h5⟩ => ⟨g, h1, h2, by rw [freeze_size]; exact h3, h4.freeze g' m, freeze_row w g' m h5⟩
  | 1, _, h => ⟨h.1, h.2.freeze g' m⟩
  | 2, _, h => h
  | 3, _, h => h
  | 4, _, h => ⟨h.1, h.2.freeze g' m⟩
  | 5, _, h => h
  | 6, _, h => h
  | 7, _, h => h
  | 8, _, h => ⟨h.1, h.2.freeze g' m⟩
  | 9, _, h => h
  | 10, _, h => h
  | 11, _, h => Rd.freeze h g' m
  | 12, _, h => ⟨h.1, h.2.freeze g' m⟩
  | 13, _, h => ⟨h.1, h.2.freeze g' m⟩
  | 14, _, ⟨g, h1, h2, vs, h3, h4⟩ => ⟨g, h1, by rw [freeze_size]; exact h2, vs, fun j u hu => by rw [freeze_cell]; exact h3 j u hu, h4.freeze g' m⟩
  | 15, _, h => Rd.freeze h g' m
  | 16, _, h => Rd.freeze h g' m
  | _ + 17, _, h => h

/-- The values of the second region. -/
def VT (B b : Nat) (J : List Int) (a : Nat) (nm : ByteArray) (x y : Nat) (s : Int) (ds : List Int) (p q : Int) (x4 : Value) (i : Nat) (v : Value) (w : World) : Prop := match i with
  | 0 => v = x4
  | 1 => v = .pointer (some ⟨b, 2, none⟩)
  | 2 => v = .int .i64 (x : Int)
  | 3 => Sl 8 (le 8 x) v w
  | 4 => v = .pointer (some ⟨b, 3, none⟩)
  | 5 => v = .int .i64 (y : Int)
  | 6 => Sl 8 (le 8 y) v w
  | 7 => v = .pointer (some ⟨b, 4, none⟩)
  | 8 => v = .agg (cellsI (rootI s ds p q))
  | 9 => Sl 64 (bytesR s ds p q) v w
  | 10 => ∃ g, v = .slice (some ⟨g, 0, none⟩) 4 4 ∧ g < w.heap.size ∧ ∃ vs, (∀ j u, vs[j]? = some u → w.cell? ⟨g, j, none⟩ = some u) ∧ AllRd w vs [J, le 8 x, le 8 y, bytesR s ds p q]
  | 11 => Rd .u8 w v ([J, le 8 x, le 8 y, bytesR s ds p q] : List (List Int)).flatten
  | 12 => w.ownsRow B 5 1 v 512 ((sealed (bytesS a nm x y s ds p q)).map (Value.int .u8))
  | 13 => w.ownsRow B 5 1 v 512 ((sealed (bytesS a nm x y s ds p q)).map (Value.int .u8))
  | 14 => v = .int .i64 0
  | _ => False
theorem VT.below {B b : Nat} {J : List Int} {a : Nat} {nm : ByteArray} {x y : Nat} {s : Int} {ds : List Int} {p q : Int} {x4 : Value} {w w' : World} (hb : Below w.heap.size w w') : ∀ (j : Nat) (u : Value), VT B b J a nm x y s ds p q x4 j u w → VT B b J a nm x y s ds p q x4 j u w'
  | 0, _, h => h
  | 1, _, h => h
  | 2, _, h => h
  | 3, _, h => Sl.below h hb
  | 4, _, h => h
  | 5, _, h => h
  | 6, _, h => Sl.below h hb
  | 7, _, h => h
  | 8, _, h => h
  | 9, _, h => Sl.below h hb
  | 10, _, ⟨g, h1, h2, vs, h3, h4⟩ => ⟨g, h1, Nat.lt_of_lt_of_le h2 hb.size, vs, fun j u hu => (hb.cell (p := ⟨g, j, none⟩) h2).trans (h3 j u hu), h4.below hb⟩
  | 11, _, h => Rd.below h hb
  | 12, _, h => own_below h hb
  | 13, _, h => own_below h hb
  | 14, _, h => h
  | _ + 15, _, h => h

set_option maxRecDepth 100000 in
set_option maxHeartbeats 2000000 in
theorem specS_true (a : Nat) (nm : ByteArray) (b c : Nat) (s : Int) (ds : List Int) (p q : Int) (w : World) (hd : ds.length = 12) (h0 : a < 256) (hn : nm.size ≤ 26) (hn0 : 0 < nm.size) (h1 : b < 281474976710656) (h2 : c < 281474976710656) (hs : 0 ≤ s ∧ s ≤ 262144) (hp : ∀ z ∈ ds ++ [p, q], 0 ≤ z ∧ z < 2048) (hr : rightS (a : Int) nm (b : Int) (c : Int) s ds p q = true) :
    Calls Tryz.prog 25 #[.agg (snapC (a : Int) nm (b : Int) (c : Int) s ds p q)] w fun e w' => ∃ v', e = .returned (.tuple #[v', .int .i64 0]) ∧ w'.ownsRow w.heap.size 5 1 v' 512 ((sealed (bytesS a nm b c s ds p q)).map (Value.int .u8)) ∧ Below w.heap.size w w' := by
  obtain ⟨d0, d1, d2, d3, d4, d5, d6, d7, d8, d9, d10, d11, hds⟩ := list12 hd
  have HD := hide hd
  have HDS := hide hds
  have HN := hide (show nm.size ≤ maxLen from by unfold maxLen; omega)
  have HSP := hide (And.intro hs hp)
  have hr' := hr
  unfold rightS at hr'
  simp only [Bool.and_eq_true] at hr'
  obtain ⟨⟨⟨⟨e0, e1⟩, e2⟩, e3⟩, e4, e5⟩ := hr'
  have hb1 : Chk.chkS nm = 0 := by simpa using e1
  have HLen := hide (show (cellsI (rootI s ds p q)).size = 15 from by rw [cellsI_size]; exact rootI_len s ds p q HD.out)
  have K0 := hide (And.intro (Blk.new w (snapC (a : Int) nm (b : Int) (c : Int) s ds p q) 41) (show Below w.heap.size w (w.alloc (.cells (snapC (a : Int) nm (b : Int) (c : Int) s ds p q) 41)) from (Below.refl _ _).alloc (Nat.le_refl _) _))
  have c0 : (w.alloc (.cells (snapC (a : Int) nm (b : Int) (c : Int) s ds p q) 41)).cell? ⟨w.heap.size, 0, none⟩ = some (.int .i64 (a : Int)) := by rw [(Blk.new w _ _).cell 0]; rfl
  have c1 : (w.alloc (.cells (snapC (a : Int) nm (b : Int) (c : Int) s ds p q) 41)).cell? ⟨w.heap.size, 1, none⟩ = some (.string nm) := by rw [(Blk.new w _ _).cell 1]; rfl
  have c2 : (w.alloc (.cells (snapC (a : Int) nm (b : Int) (c : Int) s ds p q) 41)).cell? ⟨w.heap.size, 2, none⟩ = some (.int .i64 (b : Int)) := by rw [(Blk.new w _ _).cell 2]; rfl
  have c3 : (w.alloc (.cells (snapC (a : Int) nm (b : Int) (c : Int) s ds p q) 41)).cell? ⟨w.heap.size, 3, none⟩ = some (.int .i64 (c : Int)) := by rw [(Blk.new w _ _).cell 3]; rfl
  have HRG := hide (snap_range (a : Int) nm (b : Int) (c : Int) s ds p q K0.out.1)
  clear hd hs hp hr e1 hds
  go_enter Tryz.func25, Tryz.ntmps25
  go_wp2_with (go_at_call 35; fail)
  refine (l02Within_any (a : Int) 1 31 _).mono ?_
  rintro e w1 ⟨rfl, rfl⟩
  go_wp2_with (go_at_call 36; fail)
  refine (Chk.spec_any nm _ HN.out).mono ?_
  rintro e w1 ⟨rfl, rfl⟩
  rw [hb1]
  clear hb1
  go_wp2_with (go_at_call 35; fail)
  refine (l02Within_any (b : Int) 1 1099511627776 _).mono ?_
  rintro e w1 ⟨rfl, rfl⟩
  go_wp2_with (go_at_call 35; fail)
  refine (l02Within_any (c : Int) 1 1099511627776 _).mono ?_
  rintro e w1 ⟨rfl, rfl⟩
  go_wp2_with (first | (refine wpList_load_midG (by first | rfl | simp [Region.wanted, yielded]) 34 _ rfl w.heap.size 4 rfl ((rootI s ds p q).map (Value.int .i64)) _ HRG.out Tryz.underlying34 rfl (by rw [List.length_map, ← cellsI_size, HLen.out]; exact info15) ?_) | (go_at_call 37; fail))
  refine (l02Root_any s ds p q _ HD.out).mono ?_
  rintro e W ⟨rfl, b2⟩
  have B2 := hide (K0.out.2.trans (b2.mono K0.out.2.size))
  have k2 := K0.out.1.below b2 K0.out.1.lt
  have KW := hide k2
  have c4 := (k2.cell 4).trans (show (snapC (a : Int) nm (b : Int) (c : Int) s ds p q)[4]? = some (.int .i64 s) from rfl)
  have hlw : w.heap.size < W.heap.size := k2.lt
  have HCell := hide (show ∀ w', Below W.heap.size W w' → w'.cell? ⟨w.heap.size, 0, none⟩ = some (.int .i64 (a : Int)) ∧ w'.cell? ⟨w.heap.size, 1, none⟩ = some (.string nm) ∧ w'.cell? ⟨w.heap.size, 2, none⟩ = some (.int .i64 (b : Int)) ∧ w'.cell? ⟨w.heap.size, 3, none⟩ = some (.int .i64 (c : Int)) from fun w' h => ⟨(h.cell (p := ⟨w.heap.size, 0, none⟩) KW.out.lt).trans ((KW.out.cell 0).trans rfl), (h.cell (p := ⟨w.heap.size, 1, none⟩) KW.out.lt).trans ((KW.out.cell 1).trans rfl), (h.cell (p := ⟨w.heap.size, 2, none⟩) KW.out.lt).trans ((KW.out.cell 2).trans rfl), (h.cell (p := ⟨w.heap.size, 3, none⟩) KW.out.lt).trans ((KW.out.cell 3).trans rfl)⟩)
  clear b2 k2 c0 c1 c2 c3 HRG K0
  go_wp2_with (go_at_call 38; fail)
  refine (tableSize_any s _).mono ?_
  rintro e w3 ⟨rfl, rfl⟩
  go_wp2
  have HPos := hide (show (∀ b ∈ ([snapLet, le 1 a, le 1 nm.size, strInts nm ++ List.replicate (26 - (strInts nm).length) 0, le 4 0] : List (List Int)), 0 < b.length) ∧ ([snapLet, le 1 a, le 1 nm.size, strInts nm ++ List.replicate (26 - (strInts nm).length) 0, le 4 0] : List (List Int)).flatten.length ≤ 100000 from by
    constructor
    · intro b hb
      simp only [List.mem_cons, List.not_mem_nil, or_false] at hb
      rcases hb with rfl | rfl | rfl | rfl | rfl
      · decide
      · rw [le_len]; omega
      · rw [le_len]; omega
      · rw [List.length_append, strInts_len]; omega
      · rw [le_len]; omega
    · simp only [List.flatten_cons, List.flatten_nil, List.length_append, List.length_nil, le_len, strInts_len, List.length_replicate, snapLet, List.length_cons]
      omega)
  have HJoin := hide (join_snap a nm b c s ds p q hn)
  refine wp_region_noPanic ?_
  refine wp_region_any (by kernel_rfl) ?_
  refine wpAny_invB [(1, .pointer (some ⟨w.heap.size, 0, none⟩))] (fun w' => Below W.heap.size W w') (VS W.heap.size w.heap.size a nm) 69 [] (by kernel_rfl) ?hstep ?hfin _ _ (by rfl) (by rfl) ((Below.refl _ _).drew) (by intro t v h; simp at h; obtain ⟨rfl, rfl⟩ := h; rfl)
  case hstep =>
    intro i o listed ac wz hi hall hI
    have f1 : ac.tmps.getD 1 undef = .pointer (some ⟨w.heap.size, 0, none⟩) := hI.fix 1 _ (by simp)
    match i, hi with
    | 0, hi =>
      obtain rfl := Option.some.inj hi
      have hBs := hI.held.size
      refine ⟨by rfl, ?_⟩
      go_simp
      have bN := (Below.refl wz.heap.size wz).alloc (Nat.le_refl _) (.cells #[.int .u8 115, .int .u8 110, .int .u8 97, .int .u8 112, .int .u8 115, .int .u8 104, .int .u8 111, .int .u8 116] 5)
      have HV := hide (show VS W.heap.size w.heap.size a nm 0 (.slice (some ⟨wz.heap.size, 0, none⟩) 8 8) (wz.alloc (.cells #[.int .u8 115, .int .u8 110, .int .u8 97, .int .u8 112, .int .u8 115, .int .u8 104, .int .u8 111, .int .u8 116] 5)) from ⟨wz.heap.size, rfl, hBs, by simp, Rd.own (World.ownsRow_lit (base := wz.heap.size) (e := 5) (size := 1) wz #[.int .u8 115, .int .u8 110, .int .u8 97, .int .u8 112, .int .u8 115, .int .u8 104, .int .u8 111, .int .u8 116] 8 (Nat.le_refl _) (by unfold maxLen; omega) rfl), (0, 0), heap_alloc_new wz _⟩)
      exact ⟨_, rfl, HV.out, hI.held.trans (bN.mono hI.held.size), VS.below bN⟩
    | 1, hi =>
      obtain rfl := Option.some.inj hi
      obtain ⟨gx, ex, hgx, hgl, v0, hfr⟩ : VS W.heap.size w.heap.size a nm 0 (ac.tmps.getD 40 undef) wz := hI.at hall 0 40 rfl rfl (by rfl)
      rw [ex] at v0
      refine ⟨by rfl, wp_mark 22 5 (.tmp 40) rfl gx 8 8 ex hfr Tryz.underlying22 Tryz.underlying5 ?_⟩
      exact ⟨_, rfl, ⟨⟨_, _, rfl⟩, v0.freeze gx _⟩, freeze_below hI.held gx _ hgx, VS.freeze gx _⟩
    | 2, hi =>
      obtain rfl := Option.some.inj hi
      refine ⟨by rfl, ?_⟩
      go_simp
      exact ⟨_, rfl, rfl, hI.held⟩
    | 3, hi =>
      obtain rfl := Option.some.inj hi
      have v2 : ac.tmps.getD 42 undef = .pointer (some ⟨w.heap.size, 0, none⟩) := hI.at hall 2 42 rfl rfl (by rfl)
      have hc := (HCell.out wz hI.held).1
      refine ⟨by rfl, ?_⟩
      go_simp
      exact ⟨_, rfl, rfl, hI.held⟩
    | 4, hi =>
      obtain rfl := Option.some.inj hi
      have v3 : ac.tmps.getD 43 undef = .int .i64 (a : Int) := hI.at hall 3 43 rfl rfl (by rfl)
      refine ⟨by rfl, ?_⟩
      go_simp
      refine (put_pos a 1 _ (by omega) (by omega) (by omega)).mono ?_
      rintro e w' ⟨gN, cN, rfl, oN, bN⟩
      exact ⟨_, rfl, ⟨⟨_, _, rfl⟩, Rd.own oN⟩, hI.held.trans (bN.mono hI.held.size), VS.below bN⟩
    | 5, hi =>
      obtain rfl := Option.some.inj hi
      refine ⟨by rfl, ?_⟩
      go_simp
      exact ⟨_, rfl, rfl, hI.held⟩
    | 6, hi =>
      obtain rfl := Option.some.inj hi
      have v5 : ac.tmps.getD 45 undef = .pointer (some ⟨w.heap.size, 1, none⟩) := hI.at hall 5 45 rfl rfl (by rfl)
      have hc := (HCell.out wz hI.held).2.1
      refine ⟨by rfl, ?_⟩
      go_simp
      exact ⟨_, rfl, rfl, hI.held⟩
    | 7, hi =>
      obtain rfl := Option.some.inj hi
      have v6 : ac.tmps.getD 46 undef = .string nm := hI.at hall 6 46 rfl rfl (by rfl)
      refine ⟨by rfl, ?_⟩
      go_simp
      exact ⟨_, rfl, rfl, hI.held⟩
    | 8, hi =>
      obtain rfl := Option.some.inj hi
      have v7 : ac.tmps.getD 47 undef = .int .i64 (nm.size : Int) := hI.at hall 7 47 rfl rfl (by rfl)
      refine ⟨by rfl, ?_⟩
      go_simp
      refine (put_pos nm.size 1 _ (by omega) (by omega) (by omega)).mono ?_
      rintro e w' ⟨gN, cN, rfl, oN, bN⟩
      exact ⟨_, rfl, ⟨⟨_, _, rfl⟩, Rd.own oN⟩, hI.held.trans (bN.mono hI.held.size), VS.below bN⟩
    | 9, hi =>
      obtain rfl := Option.some.inj hi
      refine ⟨by rfl, ?_⟩
      go_simp
      exact ⟨_, rfl, rfl, hI.held⟩
    | 10, hi =>
      obtain rfl := Option.some.inj hi
      have v9 : ac.tmps.getD 49 undef = .pointer (some ⟨w.heap.size, 1, none⟩) := hI.at hall 9 49 rfl rfl (by rfl)
      have hc := (HCell.out wz hI.held).2.1
      refine ⟨by rfl, ?_⟩
      go_simp
      exact ⟨_, rfl, rfl, hI.held⟩
    | 11, hi =>
      obtain rfl := Option.some.inj hi
      have v10 : ac.tmps.getD 50 undef = .string nm := hI.at hall 10 50 rfl rfl (by rfl)
      refine ⟨by rfl, ?_⟩
      refine wp_convert_sb 9 22 5 (.tmp 50) rfl nm v10 Tryz.underlying9 Tryz.underlying22 Tryz.underlying5 ?_
      have bN : Below wz.heap.size wz (Go.Lib.bytesWorld wz 5 nm) := Go.Joins.below_bytesWorld _ wz _ nm (Nat.le_refl _)
      exact ⟨_, rfl, rd_bytesWorld wz nm HN.out, hI.held.trans (bN.mono hI.held.size), VS.below bN⟩
    | 12, hi =>
      obtain rfl := Option.some.inj hi
      have v11 : Rd .u8 wz (ac.tmps.getD 51 undef) (strInts nm) := hI.at hall 11 51 rfl rfl (by rfl)
      generalize hx : ac.tmps.getD 51 undef = x51 at v11
      have HV11 := hide v11
      clear v11
      refine ⟨by rfl, ?_⟩
      go_simp
      refine (fill_pos x51 (strInts nm) 26 _ HV11.out (by rw [strInts_len]; exact hn0) (by rw [strInts_len]; exact hn) (by omega)).mono ?_
      rintro e w' ⟨gN, cN, rfl, oN, bN⟩
      exact ⟨_, rfl, ⟨⟨_, _, rfl⟩, Rd.own oN⟩, hI.held.trans (bN.mono hI.held.size), VS.below bN⟩
    | 13, hi =>
      obtain rfl := Option.some.inj hi
      refine ⟨by rfl, ?_⟩
      go_simp
      refine (put_pos 0 4 _ (by omega) (by omega) (by omega)).mono ?_
      rintro e w' ⟨gN, cN, rfl, oN, bN⟩
      exact ⟨_, rfl, ⟨⟨_, _, rfl⟩, Rd.own oN⟩, hI.held.trans (bN.mono hI.held.size), VS.below bN⟩
    | 14, hi =>
      obtain rfl := Option.some.inj hi
      obtain ⟨⟨x0, y0, e0'⟩, q0⟩ : Sl 8 snapLet (ac.tmps.getD 41 undef) wz := hI.at hall 1 41 rfl rfl (by rfl)
      rw [e0'] at q0
      have Q0 := hide q0
      clear q0
      obtain ⟨⟨x1, y1, e1'⟩, q1⟩ : Sl 1 (le 1 a) (ac.tmps.getD 44 undef) wz := hI.at hall 4 44 rfl rfl (by rfl)
      rw [e1'] at q1
      have Q1 := hide q1
      clear q1
      obtain ⟨⟨x2, y2, e2'⟩, q2⟩ : Sl 1 (le 1 nm.size) (ac.tmps.getD 48 undef) wz := hI.at hall 8 48 rfl rfl (by rfl)
      rw [e2'] at q2
      have Q2 := hide q2
      clear q2
      obtain ⟨⟨x3, y3, e3'⟩, q3⟩ : Sl 26 (strInts nm ++ List.replicate (26 - (strInts nm).length) 0) (ac.tmps.getD 52 undef) wz := hI.at hall 12 52 rfl rfl (by rfl)
      rw [e3'] at q3
      have Q3 := hide q3
      clear q3
      obtain ⟨⟨x4, y4, e4'⟩, q4⟩ : Sl 4 (le 4 0) (ac.tmps.getD 53 undef) wz := hI.at hall 13 53 rfl rfl (by rfl)
      rw [e4'] at q4
      have Q4 := hide q4
      clear q4
      have n0 := e0'
      rw [Array.getD_eq_getD_getElem?] at n0
      have n1 := e1'
      rw [Array.getD_eq_getD_getElem?] at n1
      have n2 := e2'
      rw [Array.getD_eq_getD_getElem?] at n2
      have n3 := e3'
      rw [Array.getD_eq_getD_getElem?] at n3
      have n4 := e4'
      rw [Array.getD_eq_getD_getElem?] at n4
      refine ⟨by rfl, ?_⟩
      go_simp
      have bN := (Below.refl wz.heap.size wz).alloc (Nat.le_refl _) (.cells #[.slice (some ⟨x0, 0, none⟩) 8 y0, .slice (some ⟨x1, 0, none⟩) 1 y1, .slice (some ⟨x2, 0, none⟩) 1 y2, .slice (some ⟨x3, 0, none⟩) 26 y3, .slice (some ⟨x4, 0, none⟩) 4 y4] 22)
      have HV := hide (show VS W.heap.size w.heap.size a nm 14 (.slice (some ⟨wz.heap.size, 0, none⟩) 5 5) (wz.alloc (.cells #[.slice (some ⟨x0, 0, none⟩) 8 y0, .slice (some ⟨x1, 0, none⟩) 1 y1, .slice (some ⟨x2, 0, none⟩) 1 y2, .slice (some ⟨x3, 0, none⟩) 26 y3, .slice (some ⟨x4, 0, none⟩) 4 y4] 22)) from ⟨wz.heap.size, rfl, by simp, [.slice (some ⟨x0, 0, none⟩) 8 y0, .slice (some ⟨x1, 0, none⟩) 1 y1, .slice (some ⟨x2, 0, none⟩) 1 y2, .slice (some ⟨x3, 0, none⟩) 26 y3, .slice (some ⟨x4, 0, none⟩) 4 y4], fun j u hu => by
        rw [cell_of_row _ _ j _ _ _ (heap_alloc_new wz _)]
        simpa using hu, Q0.out.below bN, Q1.out.below bN, Q2.out.below bN, Q3.out.below bN, Q4.out.below bN, trivial⟩)
      exact ⟨_, rfl, HV.out, hI.held.trans (bN.mono hI.held.size), VS.below bN⟩
    | 15, hi =>
      obtain rfl := Option.some.inj hi
      obtain ⟨g, e14, hg14, vs, hc14, ha14⟩ := hI.at hall 14 54 rfl rfl (by rfl)
      have HA14 := hide (And.intro hc14 ha14)
      clear hc14 ha14
      refine ⟨by rfl, ?_⟩
      go_simp
      refine (join_any g 5 5 vs ([snapLet, le 1 a, le 1 nm.size, strInts nm ++ List.replicate (26 - (strInts nm).length) 0, le 4 0] : List (List Int)) _ HA14.out.1 HA14.out.2 rfl (by omega) HPos.out.1 HPos.out.2 hg14).mono ?_
      rintro e w' ⟨vJ, rfl, oN, bN⟩
      exact ⟨_, rfl, Rd.own oN, hI.held.trans (bN.mono hI.held.size), VS.below bN⟩
    | 16, hi =>
      obtain rfl := Option.some.inj hi
      have v15 : Rd .u8 wz (ac.tmps.getD 55 undef) ([snapLet, le 1 a, le 1 nm.size, strInts nm ++ List.replicate (26 - (strInts nm).length) 0, le 4 0] : List (List Int)).flatten := hI.at hall 15 55 rfl rfl (by rfl)
      generalize hx : ac.tmps.getD 55 undef = x at v15
      refine ⟨by rfl, ?_⟩
      go_simp
      exact ⟨_, rfl, v15, hI.held⟩
    | i + 17, hi => cases hi
  case hfin =>
    intro listed ac wz hl hI
    refine NoPanic.normal ?_
    have v4 : Rd .u8 wz (ac.tmps.getD 4 undef) ([snapLet, le 1 a, le 1 nm.size, strInts nm ++ List.replicate (26 - (strInts nm).length) 0, le 4 0] : List (List Int)).flatten := hI.vals 16 _ 4 rfl (hl 16 (by decide)) rfl
    have f1 : ac.tmps.getD 1 undef = .pointer (some ⟨w.heap.size, 0, none⟩) := hI.fix 1 _ (by simp)
    have hsz := hI.sz
    have hdf := hI.df
    have hB := hI.held
    clear hI hl
    generalize ([snapLet, le 1 a, le 1 nm.size, strInts nm ++ List.replicate (26 - (strInts nm).length) 0, le 4 0] : List (List Int)).flatten = J at v4 HJoin
    go_wp2
    generalize hx4 : ac.tmps.getD 4 undef = x4 at v4
    have HPos2 := hide (show (∀ z ∈ ([J, le 8 b, le 8 c, bytesR s ds p q] : List (List Int)), 0 < z.length) ∧ ([J, le 8 b, le 8 c, bytesR s ds p q] : List (List Int)).flatten.length ≤ 100000 from by
      have hl := bytesS_len a nm b c s ds p q HD.out hn
      rw [← HJoin.out] at hl
      simp only [List.flatten_cons, List.flatten_nil, List.length_append, List.length_nil, le_len, bytesR_len s ds p q HD.out] at hl
      constructor
      · intro z hz
        simp only [List.mem_cons, List.not_mem_nil, or_false] at hz
        rcases hz with rfl | rfl | rfl | rfl
        · omega
        · rw [le_len]; omega
        · rw [le_len]; omega
        · rw [bytesR_len s ds p q HD.out]; omega
      · simp only [List.flatten_cons, List.flatten_nil, List.length_append, List.length_nil, le_len, bytesR_len s ds p q HD.out]
        omega)
    have V4 := hide v4
    clear v4
    refine wp_region_noPanic ?_
    refine wp_region_any (by kernel_rfl) ?_
    refine wpAny_invB [(1, .pointer (some ⟨w.heap.size, 0, none⟩)), (4, x4)] (fun w' => Below wz.heap.size wz w') (VT W.heap.size w.heap.size J a nm b c s ds p q x4) 69 [] (by kernel_rfl) ?hstep4 ?hfin4 _ _ hsz hdf ((Below.refl _ _).drew) (by
      intro t v h
      simp only [List.mem_cons, List.not_mem_nil, or_false, Prod.mk.injEq] at h
      rcases h with ⟨rfl, rfl⟩ | ⟨rfl, rfl⟩
      · exact f1
      · exact hx4)
    case hstep4 =>
      intro i o listed ac wy hi hall hI
      have f1 : ac.tmps.getD 1 undef = .pointer (some ⟨w.heap.size, 0, none⟩) := hI.fix 1 _ (by simp)
      have f4 : ac.tmps.getD 4 undef = x4 := hI.fix 4 _ (by simp)
      have hBW : Below W.heap.size W wy := hB.trans (hI.held.mono hB.size)
      match i, hi with
      | 0, hi =>
        obtain rfl := Option.some.inj hi
        refine ⟨by rfl, ?_⟩
        go_simp
        exact ⟨_, rfl, rfl, hI.held⟩
      | 1, hi =>
        obtain rfl := Option.some.inj hi
        refine ⟨by rfl, ?_⟩
        go_simp
        exact ⟨_, rfl, rfl, hI.held⟩
      | 2, hi =>
        obtain rfl := Option.some.inj hi
        have v1 : ac.tmps.getD 57 undef = .pointer (some ⟨w.heap.size, 2, none⟩) := hI.at hall 1 57 rfl rfl (by rfl)
        have hc := (HCell.out wy hBW).2.2.1
        refine ⟨by rfl, ?_⟩
        go_simp
        exact ⟨_, rfl, rfl, hI.held⟩
      | 3, hi =>
        obtain rfl := Option.some.inj hi
        have v2 : ac.tmps.getD 58 undef = .int .i64 (b : Int) := hI.at hall 2 58 rfl rfl (by rfl)
        refine ⟨by rfl, ?_⟩
        go_simp
        refine (put_pos b 8 _ (by omega) (by omega) (by omega)).mono ?_
        rintro e w' ⟨gN, cN, rfl, oN, bN⟩
        exact ⟨_, rfl, ⟨⟨_, _, rfl⟩, Rd.own oN⟩, hI.held.trans (bN.mono hI.held.size), VT.below bN⟩
      | 4, hi =>
        obtain rfl := Option.some.inj hi
        refine ⟨by rfl, ?_⟩
        go_simp
        exact ⟨_, rfl, rfl, hI.held⟩
      | 5, hi =>
        obtain rfl := Option.some.inj hi
        have v4 : ac.tmps.getD 60 undef = .pointer (some ⟨w.heap.size, 3, none⟩) := hI.at hall 4 60 rfl rfl (by rfl)
        have hc := (HCell.out wy hBW).2.2.2
        refine ⟨by rfl, ?_⟩
        go_simp
        exact ⟨_, rfl, rfl, hI.held⟩
      | 6, hi =>
        obtain rfl := Option.some.inj hi
        have v5 : ac.tmps.getD 61 undef = .int .i64 (c : Int) := hI.at hall 5 61 rfl rfl (by rfl)
        refine ⟨by rfl, ?_⟩
        go_simp
        refine (put_pos c 8 _ (by omega) (by omega) (by omega)).mono ?_
        rintro e w' ⟨gN, cN, rfl, oN, bN⟩
        exact ⟨_, rfl, ⟨⟨_, _, rfl⟩, Rd.own oN⟩, hI.held.trans (bN.mono hI.held.size), VT.below bN⟩
      | 7, hi =>
        obtain rfl := Option.some.inj hi
        refine ⟨by rfl, ?_⟩
        go_simp
        exact ⟨_, rfl, rfl, hI.held⟩
      | 8, hi =>
        obtain rfl := Option.some.inj hi
        have v7 : ac.tmps.getD 63 undef = .pointer (some ⟨w.heap.size, 4, none⟩) := hI.at hall 7 63 rfl rfl (by rfl)
        refine ⟨by rfl, wp_load_mid 34 (.tmp 63) rfl w.heap.size 4 v7 ((rootI s ds p q).map (Value.int .i64)) _ (snap_range (a : Int) nm (b : Int) (c : Int) s ds p q (KW.out.below hBW KW.out.lt)) Tryz.underlying34 rfl (by rw [List.length_map, ← cellsI_size, HLen.out]; exact info15) ?_⟩
        exact ⟨_, rfl, rfl, hI.held, fun _ _ h => h⟩
      | 9, hi =>
        obtain rfl := Option.some.inj hi
        have v8 : ac.tmps.getD 64 undef = .agg (cellsI (rootI s ds p q)) := hI.at hall 8 64 rfl rfl (by rfl)
        refine ⟨by rfl, ?_⟩
        go_simp
        refine (rootBytes_pos s ds p q _ HD.out HSP.out.1 HSP.out.2).mono ?_
        rintro e w' ⟨gN, cN, rfl, oN, bN⟩
        exact ⟨_, rfl, ⟨⟨_, _, rfl⟩, Rd.own oN⟩, hI.held.trans (bN.mono hI.held.size), VT.below bN⟩
      | 10, hi =>
        obtain rfl := Option.some.inj hi
        have v0 : ac.tmps.getD 56 undef = x4 := hI.at hall 0 56 rfl rfl (by rfl)
        obtain ⟨ax, cx, ex, _⟩ := id V4.out
        have Q0 := hide ((V4.out.below ((Below.refl _ wz).mono (Nat.le_refl _))).below hI.held)
        rw [ex] at v0 Q0
        have n0 := v0
        rw [Array.getD_eq_getD_getElem?] at n0
        obtain ⟨⟨x1, y1, e1'⟩, q1⟩ : Sl 8 (le 8 b) (ac.tmps.getD 59 undef) wy := hI.at hall 3 59 rfl rfl (by rfl)
        rw [e1'] at q1
        have Q1 := hide q1
        clear q1
        have n1 := e1'
        rw [Array.getD_eq_getD_getElem?] at n1
        obtain ⟨⟨x2, y2, e2'⟩, q2⟩ : Sl 8 (le 8 c) (ac.tmps.getD 62 undef) wy := hI.at hall 6 62 rfl rfl (by rfl)
        rw [e2'] at q2
        have Q2 := hide q2
        clear q2
        have n2 := e2'
        rw [Array.getD_eq_getD_getElem?] at n2
        obtain ⟨⟨x3, y3, e3'⟩, q3⟩ : Sl 64 (bytesR s ds p q) (ac.tmps.getD 65 undef) wy := hI.at hall 9 65 rfl rfl (by rfl)
        rw [e3'] at q3
        have Q3 := hide q3
        clear q3
        have n3 := e3'
        rw [Array.getD_eq_getD_getElem?] at n3
        refine ⟨by rfl, ?_⟩
        go_simp
        have bN := (Below.refl wy.heap.size wy).alloc (Nat.le_refl _) (.cells #[.slice ax J.length cx, .slice (some ⟨x1, 0, none⟩) 8 y1, .slice (some ⟨x2, 0, none⟩) 8 y2, .slice (some ⟨x3, 0, none⟩) 64 y3] 22)
        have HV := hide (show VT W.heap.size w.heap.size J a nm b c s ds p q x4 10 (.slice (some ⟨wy.heap.size, 0, none⟩) 4 4) (wy.alloc (.cells #[.slice ax J.length cx, .slice (some ⟨x1, 0, none⟩) 8 y1, .slice (some ⟨x2, 0, none⟩) 8 y2, .slice (some ⟨x3, 0, none⟩) 64 y3] 22)) from ⟨wy.heap.size, rfl, by simp, [.slice ax J.length cx, .slice (some ⟨x1, 0, none⟩) 8 y1, .slice (some ⟨x2, 0, none⟩) 8 y2, .slice (some ⟨x3, 0, none⟩) 64 y3], fun j u hu => by
          rw [cell_of_row _ _ j _ _ _ (heap_alloc_new wy _)]
          simpa using hu, Q0.out.below bN, Q1.out.below bN, Q2.out.below bN, Q3.out.below bN, trivial⟩)
        exact ⟨_, rfl, HV.out, hI.held.trans (bN.mono hI.held.size), VT.below bN⟩
      | 11, hi =>
        obtain rfl := Option.some.inj hi
        obtain ⟨g, e10, hg10, vs, hc10, ha10⟩ : VT W.heap.size w.heap.size J a nm b c s ds p q x4 10 (ac.tmps.getD 66 undef) wy := hI.at hall 10 66 rfl rfl (by rfl)
        have HA10 := hide (And.intro hc10 ha10)
        clear hc10 ha10
        refine ⟨by rfl, ?_⟩
        go_simp
        refine (join_any g 4 4 vs [J, le 8 b, le 8 c, bytesR s ds p q] _ HA10.out.1 HA10.out.2 rfl (by omega) HPos2.out.1 HPos2.out.2 hg10).mono ?_
        rintro e w' ⟨vJ, rfl, oN, bN⟩
        exact ⟨_, rfl, Rd.own oN, hI.held.trans (bN.mono hI.held.size), VT.below bN⟩
      | 12, hi =>
        obtain rfl := Option.some.inj hi
        have v11 : Rd .u8 wy (ac.tmps.getD 67 undef) ([J, le 8 b, le 8 c, bytesR s ds p q] : List (List Int)).flatten := hI.at hall 11 67 rfl rfl (by rfl)
        rw [HJoin.out] at v11
        generalize hx : ac.tmps.getD 67 undef = x67 at v11
        have HV11 := hide v11
        clear v11
        refine ⟨by rfl, ?_⟩
        go_simp
        refine (sealed_any x67 (bytesS a nm b c s ds p q) _ HV11.out (by rw [bytesS_len a nm b c s ds p q HD.out hn]; omega) (by rw [bytesS_len a nm b c s ds p q HD.out hn]; omega) (bytesS_bd a nm b c s ds p q)).mono ?_
        rintro e w' ⟨vS, rfl, oN, bN⟩
        exact ⟨_, rfl, own_mono oN hBW.size, hI.held.trans (bN.mono hI.held.size), VT.below bN⟩
      | 13, hi =>
        obtain rfl := Option.some.inj hi
        have v12 : wy.ownsRow W.heap.size 5 1 (ac.tmps.getD 68 undef) 512 ((sealed (bytesS a nm b c s ds p q)).map (Value.int .u8)) := hI.at hall 12 68 rfl rfl (by rfl)
        generalize hx : ac.tmps.getD 68 undef = x68 at v12
        have HV12 := hide v12
        clear v12
        refine ⟨by rfl, ?_⟩
        go_simp
        exact ⟨_, rfl, HV12.out, hI.held⟩
      | 14, hi =>
        obtain rfl := Option.some.inj hi
        refine ⟨by rfl, ?_⟩
        go_simp
        exact ⟨_, rfl, rfl, hI.held⟩
      | i + 15, hi => cases hi
    case hfin4 =>
      intro listed ac2 wy hl hI
      refine NoPanic.normal ?_
      have r2 : wy.ownsRow W.heap.size 5 1 (ac2.tmps.getD 2 undef) 512 ((sealed (bytesS a nm b c s ds p q)).map (Value.int .u8)) := hI.vals 13 _ 2 rfl (hl 13 (by decide)) rfl
      have r3 : ac2.tmps.getD 3 undef = .int .i64 0 := hI.vals 14 _ 3 rfl (hl 14 (by decide)) rfl
      have hB2 := hI.held
      have hdf2 := hI.df
      clear hI hl
      go_wp2
      try simp only [Exit.inBlock, Exit.then]
      refine bodyPost_ret (results_tmp2 rfl _ _ _) hdf2 ?_
      exact ⟨_, by rw [r3], own_mono r2 B2.out.size, B2.out.trans ((hB.trans (hB2.mono hB.size)).mono B2.out.size)⟩

theorem specS_any (pl : Int) (nm : ByteArray) (ge cl s : Int) (ds : List Int) (p q : Int) (w : World) (hd : ds.length = 12) (hn : nm.size ≤ maxLen) :
    Calls Tryz.prog 25 #[.agg (snapC pl nm ge cl s ds p q)] w fun e w' => ∃ v', e = .returned (.tuple #[v', .int .i64 (codeS pl nm ge cl s ds p q)]) ∧ w'.ownsRow w.heap.size 5 1 v' (encS pl nm ge cl s ds p q).length ((encS pl nm ge cl s ds p q).map (Value.int .u8)) ∧ Below w.heap.size w w' := by
  cases hr : rightS pl nm ge cl s ds p q with
  | false =>
    refine (specS_false pl nm ge cl s ds p q w hd hn hr).mono ?_
    rintro e w' ⟨rfl, hb⟩
    rw [show codeS pl nm ge cl s ds p q = 7 from by simp [codeS, hr], show encS pl nm ge cl s ds p q = [] from by simp [encS, hr]]
    exact ⟨_, rfl, World.ownsRow_nil _ _ _ _, hb⟩
  | true =>
    obtain ⟨b0, b1, b2, b3, bs, bp⟩ := snap_bd hd hr
    have hn0 : 0 < nm.size := by
      have h := hr
      unfold rightS at h
      simp only [Bool.and_eq_true] at h
      exact (chk_size h.1.1.1.2).2
    obtain ⟨a, rfl⟩ := Int.eq_ofNat_of_zero_le b0.1
    obtain ⟨b, rfl⟩ := Int.eq_ofNat_of_zero_le b2.1
    obtain ⟨c, rfl⟩ := Int.eq_ofNat_of_zero_le b3.1
    refine (specS_true a nm b c s ds p q w hd (by omega) b1.1 hn0 (by omega) (by omega) bs bp hr).mono ?_
    rintro e w' ⟨v', rfl, ho, hb⟩
    refine ⟨v', by unfold codeS; rw [hr]; rfl, ?_, hb⟩
    unfold encS
    rw [if_pos hr]
    simp only [Int.toNat_natCast]
    rw [sealed_len _ (by rw [bytesS_len _ _ _ _ _ _ _ _ hd b1.1]; omega)]
    exact ho
end Go.Proofs.YtfkmnmopkblopaaGreatDoor
