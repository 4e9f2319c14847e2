/- An operation while it is drawn: its block, how each of its fields is set, what lies beside it. An operation drawn over the new state: the head of L08Op, whose one statement draws its order. -/
import Derived.Test.YtohmjfagbhnieaaGreatDoorZl07
import Derived.Test.YtohmjfagbhnieaaGreatDoorZl11
import Derived.Test.YtohmjfagbhnieaaGreatDoorZl26
import Derived.Deep.DeepCutAuto
import Derived.Deep.CutBlock
import Derived.Deep.RegionWith
namespace Go.Proofs.YtohmjfagbhnieaaGreatDoor
set_option linter.unusedVariables false
set_option linter.unusedSimpArgs false
open Go.RowKit

/-- What is known of an operation that was drawn: fields within their bounds, and its bytes in a row of their own from g on. -/
def OpF (wr : World) (g : Nat) (A B : Int) (p q : ByteArray) (v : Value) : Prop :=
  In64 A ∧ In64 B ∧ p.size ≤ 600 ∧ q.size ≤ 600 ∧ ∃ zs : List Int, zs.length ≤ 4097 ∧ Byt zs ∧ wr.ownsRow g 5 1 v zs.length (zs.map (Value.int .u8))
/-- In the midst of drawing an operation that began in W: the source, the state's box, the new state's nodes, the result's block, the operation at g. -/
structure OpS (w0 W wr : World) (b D g : Nat) (cv : Value) (cs : List Int) (K : Int) : Prop where
  dn : Dn w0 W wr b cv cs
  st : Blk wr W.heap.size #[.int .i64 1, .slice (some ⟨D, 0, none⟩) 2 2] 35
  rs : Blk wr (W.heap.size + 1) zeroOp 30
  nd : Blk wr D nodes0 61
  hD : D < W.heap.size
  ne : D ≠ b
  g2 : W.heap.size + 2 ≤ g
  k0 : 1 ≤ K
  k1 : K ≤ 17
  op : ∃ (A B U G : Int) (p q : ByteArray) (v : Value), Blk wr g (opC K A B U G p q v) 30 ∧ OpF wr (g + 1) A B p q v
/-- The same ahead of the operation itself. -/
structure OpR (w0 W wr : World) (b D : Nat) (cv : Value) (cs : List Int) : Prop where
  dn : Dn w0 W wr b cv cs
  st : Blk wr W.heap.size #[.int .i64 1, .slice (some ⟨D, 0, none⟩) 2 2] 35
  rs : Blk wr (W.heap.size + 1) zeroOp 30
  nd : Blk wr D nodes0 61
  hD : D < W.heap.size
  ne : D ≠ b
theorem OpR.fresh {w0 W wr w' : World} {b D : Nat} {cv : Value} {cs : List Int} (h : OpR w0 W wr b D cv cs) (hb : Below wr.heap.size wr w') : OpR w0 W w' b D cv cs :=
  ⟨h.dn.own (hb.mono h.dn.gb.size), h.st.below hb h.st.lt, h.rs.below hb h.rs.lt, h.nd.below hb h.nd.lt, h.hD, h.ne⟩
theorem OpR.draw {w0 W wr w' : World} {b D : Nat} {cv : Value} {cs : List Int} (h : OpR w0 W wr b D cv cs) (hs : Sc w0 w' b cv cs) (hg : wr.grownBy w' (some b)) : OpR w0 W w' b D cv cs :=
  ⟨h.dn.draw hs hg, h.st.drawn hg (by have := h.dn.lt; omega), h.rs.drawn hg (by have := h.dn.lt; omega), h.nd.drawn hg h.ne, h.hD, h.ne⟩
theorem OpR.start {w0 W : World} {b D : Nat} {cv : Value} {cs : List Int} (h : Sc w0 W b cv cs) (hD : Blk W D nodes0 61) (hne : D ≠ b) : OpR w0 W (((W.alloc (.cells #[.int .i64 1, .slice (some ⟨D, 0, none⟩) 2 2] 35)).alloc (.cells zeroOp 30)).drew) b D cv cs := by
  have h1 : Below W.heap.size W ((W.alloc (.cells #[.int .i64 1, .slice (some ⟨D, 0, none⟩) 2 2] 35)).alloc (.cells zeroOp 30)).drew := (((Below.refl _ _).alloc (Nat.le_refl _) _).alloc (by simp) _).drew
  refine ⟨(Dn.start h).own h1, ?_, ?_, hD.below h1 hD.lt, hD.lt, hne⟩
  · exact (Blk.new W _ _).alloc _
  · have h2 := Blk.new (W.alloc (.cells #[.int .i64 1, .slice (some ⟨D, 0, none⟩) 2 2] 35)) zeroOp 30
    rw [World.size_alloc] at h2
    exact h2
theorem OpR.sz {w0 W wr : World} {b D : Nat} {cv : Value} {cs : List Int} (h : OpR w0 W wr b D cv cs) : W.heap.size + 2 ≤ wr.heap.size := h.rs.lt
theorem OpR.ops {w0 W wr : World} {b D g : Nat} {cv : Value} {cs : List Int} (h : OpR w0 W wr b D cv cs) (k : Blk wr g zeroOp 30) (hg : W.heap.size + 2 ≤ g) (K : Int) (h0 : 1 ≤ K) (h1 : K ≤ 17) (p : ByteArray) (hp : p.size ≤ 600) : OpS w0 W (wr.setRow g (opC K 0 0 0 0 p ⟨#[]⟩ (.slice none 0 0))) b D g cv cs K := by
  have hb := below_setRow (Below.refl g wr) (Nat.le_refl _) (opC K 0 0 0 0 p ⟨#[]⟩ (.slice none 0 0))
  have hD := h.hD
  exact ⟨h.dn.own (hb.mono (by omega)), h.st.below hb (by omega), h.rs.below hb (by omega), h.nd.below hb (by omega), h.hD, h.ne, hg, h0, h1, 0, 0, 0, 0, p, ⟨#[]⟩, .slice none 0 0, k.row _, by unfold In64; omega, by unfold In64; omega, hp, by decide, [], by simp, Byt.nil, World.ownsRow_nil _ _ _ _⟩
theorem OpF.draw {wr w' : World} {g b : Nat} {A B : Int} {p q : ByteArray} {v : Value} (h : OpF wr g A B p q v) (hg : wr.grownBy w' (some b)) (hb : b < g) : OpF w' g A B p q v := by
  obtain ⟨h1, h2, h3, h4, zs, h5, h6, h7⟩ := h
  refine ⟨h1, h2, h3, h4, zs, h5, h6, h7.kept hg ?_⟩
  cases hv : v.ownBlock with
  | none => exact .inl rfl
  | some k => exact .inr (fun e => by have := (h7.lt k hv).1; injection e with e; omega)
theorem OpS.draw {w0 W wr w' : World} {b D g : Nat} {cv : Value} {cs : List Int} {K : Int} (h : OpS w0 W wr b D g cv cs K) (hs : Sc w0 w' b cv cs) (hg : wr.grownBy w' (some b)) : OpS w0 W w' b D g cv cs K := by
  have hb := h.dn.lt
  have h2 := h.g2
  obtain ⟨A, B, U, G, p, q, v, k, f⟩ := h.op
  exact ⟨h.dn.draw hs hg, h.st.drawn hg (by omega), h.rs.drawn hg (by omega), h.nd.drawn hg h.ne, h.hD, h.ne, h.g2, h.k0, h.k1, A, B, U, G, p, q, v, k.drawn hg (by omega), f.draw hg (by omega)⟩
theorem OpS.fresh {w0 W wr w' : World} {b D g : Nat} {cv : Value} {cs : List Int} {K : Int} (h : OpS w0 W wr b D g cv cs K) (hb : Below wr.heap.size wr w') : OpS w0 W w' b D g cv cs K := by
  obtain ⟨A, B, U, G, p, q, v, k, h1, h2, h3, h4, zs, h5, h6, h7⟩ := h.op
  have := h.dn.gb.size
  exact ⟨h.dn.own (hb.mono (by omega)), h.st.below hb h.st.lt, h.rs.below hb h.rs.lt, h.nd.below hb h.nd.lt, h.hD, h.ne, h.g2, h.k0, h.k1, A, B, U, G, p, q, v, k.below hb k.lt, h1, h2, h3, h4, zs, h5, h6, own_below h7 hb⟩
theorem grown_setC (w : World) (b i : Nat) (v : Value) : w.grownBy (w.setCell ⟨b, i, none⟩ v) (some b) :=
  ⟨rfl, rfl, rfl, by simp [World.setCell], fun k _ hk => Below.heap_setCell _ _ _ _ (fun e => hk (by simp [e]))⟩
theorem own_setG {wr : World} {g n : Nat} {v : Value} {xs : List Value} (h : wr.ownsRow (g + 1) 5 1 v n xs) (i : Nat) (u : Value) : (wr.setCell ⟨g, i, none⟩ u).ownsRow (g + 1) 5 1 v n xs :=
  h.kept (grown_setC wr g i u) (by
    cases hv : v.ownBlock with
    | none => exact .inl rfl
    | some k => exact .inr (fun e => by have := (h.lt k hv).1; injection e with e; omega))
theorem OpS.base {w0 W wr : World} {b D g i : Nat} {cv : Value} {cs : List Int} {K : Int} (h : OpS w0 W wr b D g cv cs K) (u : Value) :
    Dn w0 W (wr.setCell ⟨g, i, none⟩ u) b cv cs ∧ Blk (wr.setCell ⟨g, i, none⟩ u) W.heap.size #[.int .i64 1, .slice (some ⟨D, 0, none⟩) 2 2] 35 ∧ Blk (wr.setCell ⟨g, i, none⟩ u) (W.heap.size + 1) zeroOp 30 ∧ Blk (wr.setCell ⟨g, i, none⟩ u) D nodes0 61 := by
  have h2 := h.g2
  have h3 := h.hD
  exact ⟨h.dn.put (by omega) u, h.st.other _ _ (by simp; omega), h.rs.other _ _ (by simp; omega), h.nd.other _ _ (by simp; omega)⟩
/-- How each field is set. -/
theorem OpS.setK {w0 W wr : World} {b D g : Nat} {cv : Value} {cs : List Int} {K : Int} (h : OpS w0 W wr b D g cv cs K) (K' : Int) (h0 : 1 ≤ K') (h1 : K' ≤ 17) : OpS w0 W (wr.setCell ⟨g, 0, none⟩ (.int .i64 K')) b D g cv cs K' := by
  obtain ⟨A, B, U, G, p, q, v, k, f1, f2, f3, f4, zs, f5, f6, f7⟩ := h.op
  obtain ⟨b1, b2, b3, b4⟩ := h.base (i := 0) (.int .i64 K')
  exact ⟨b1, b2, b3, b4, h.hD, h.ne, h.g2, h0, h1, A, B, U, G, p, q, v, k.set 0 _, f1, f2, f3, f4, zs, f5, f6, own_setG f7 _ _⟩
theorem OpS.setA {w0 W wr : World} {b D g : Nat} {cv : Value} {cs : List Int} {K : Int} (h : OpS w0 W wr b D g cv cs K) (z : Int) (hz : In64 z) : OpS w0 W (wr.setCell ⟨g, 1, none⟩ (.int .i64 z)) b D g cv cs K := by
  obtain ⟨A, B, U, G, p, q, v, k, f1, f2, f3, f4, zs, f5, f6, f7⟩ := h.op
  obtain ⟨b1, b2, b3, b4⟩ := h.base (i := 1) (.int .i64 z)
  exact ⟨b1, b2, b3, b4, h.hD, h.ne, h.g2, h.k0, h.k1, z, B, U, G, p, q, v, k.set 1 _, hz, f2, f3, f4, zs, f5, f6, own_setG f7 _ _⟩
theorem OpS.setB {w0 W wr : World} {b D g : Nat} {cv : Value} {cs : List Int} {K : Int} (h : OpS w0 W wr b D g cv cs K) (z : Int) (hz : In64 z) : OpS w0 W (wr.setCell ⟨g, 2, none⟩ (.int .i64 z)) b D g cv cs K := by
  obtain ⟨A, B, U, G, p, q, v, k, f1, f2, f3, f4, zs, f5, f6, f7⟩ := h.op
  obtain ⟨b1, b2, b3, b4⟩ := h.base (i := 2) (.int .i64 z)
  exact ⟨b1, b2, b3, b4, h.hD, h.ne, h.g2, h.k0, h.k1, A, z, U, G, p, q, v, k.set 2 _, f1, hz, f3, f4, zs, f5, f6, own_setG f7 _ _⟩
theorem OpS.setU {w0 W wr : World} {b D g : Nat} {cv : Value} {cs : List Int} {K : Int} (h : OpS w0 W wr b D g cv cs K) (z : Int) : OpS w0 W (wr.setCell ⟨g, 3, none⟩ (.int .i64 z)) b D g cv cs K := by
  obtain ⟨A, B, U, G, p, q, v, k, f1, f2, f3, f4, zs, f5, f6, f7⟩ := h.op
  obtain ⟨b1, b2, b3, b4⟩ := h.base (i := 3) (.int .i64 z)
  exact ⟨b1, b2, b3, b4, h.hD, h.ne, h.g2, h.k0, h.k1, A, B, z, G, p, q, v, k.set 3 _, f1, f2, f3, f4, zs, f5, f6, own_setG f7 _ _⟩
theorem OpS.setG {w0 W wr : World} {b D g : Nat} {cv : Value} {cs : List Int} {K : Int} (h : OpS w0 W wr b D g cv cs K) (z : Int) : OpS w0 W (wr.setCell ⟨g, 4, none⟩ (.int .i64 z)) b D g cv cs K := by
  obtain ⟨A, B, U, G, p, q, v, k, f1, f2, f3, f4, zs, f5, f6, f7⟩ := h.op
  obtain ⟨b1, b2, b3, b4⟩ := h.base (i := 4) (.int .i64 z)
  exact ⟨b1, b2, b3, b4, h.hD, h.ne, h.g2, h.k0, h.k1, A, B, U, z, p, q, v, k.set 4 _, f1, f2, f3, f4, zs, f5, f6, own_setG f7 _ _⟩
theorem OpS.setQ {w0 W wr : World} {b D g : Nat} {cv : Value} {cs : List Int} {K : Int} (h : OpS w0 W wr b D g cv cs K) (s : ByteArray) (hs : s.size ≤ 600) : OpS w0 W (wr.setCell ⟨g, 6, none⟩ (.string s)) b D g cv cs K := by
  obtain ⟨A, B, U, G, p, q, v, k, f1, f2, f3, f4, zs, f5, f6, f7⟩ := h.op
  obtain ⟨b1, b2, b3, b4⟩ := h.base (i := 6) (.string s)
  exact ⟨b1, b2, b3, b4, h.hD, h.ne, h.g2, h.k0, h.k1, A, B, U, G, p, s, v, k.set 6 _, f1, f2, f3, hs, zs, f5, f6, own_setG f7 _ _⟩
theorem OpS.setD {w0 W wr : World} {b D g : Nat} {cv : Value} {cs : List Int} {K : Int} (h : OpS w0 W wr b D g cv cs K) (d : Value) (zs : List Int) (hl : zs.length ≤ 4097) (hB : Byt zs) (ho : wr.ownsRow (g + 1) 5 1 d zs.length (zs.map (Value.int .u8))) : OpS w0 W (wr.setCell ⟨g, 7, none⟩ d) b D g cv cs K := by
  obtain ⟨A, B, U, G, p, q, v, k, f1, f2, f3, f4, _, _, _, _⟩ := h.op
  obtain ⟨b1, b2, b3, b4⟩ := h.base (i := 7) d
  exact ⟨b1, b2, b3, b4, h.hD, h.ne, h.g2, h.k0, h.k1, A, B, U, G, p, q, d, k.set 7 _, f1, f2, f3, f4, zs, hl, hB, own_setG ho _ _⟩
theorem OpS.kind {w0 W wr : World} {b D g : Nat} {cv : Value} {cs : List Int} {K : Int} (h : OpS w0 W wr b D g cv cs K) : wr.cell? ⟨g, 0, none⟩ = some (.int .i64 K) := by
  obtain ⟨A, B, U, G, p, q, v, k, f⟩ := h.op
  exact (k.cell 0).trans rfl
theorem OpS.there {w0 W wr : World} {b D g : Nat} {cv : Value} {cs : List Int} {K : Int} (h : OpS w0 W wr b D g cv cs K) (i : Nat) (hi : i < 8) : (∃ u, wr.cell? ⟨g, i, none⟩ = some u) ∧ wr.frozen? ⟨g, i, none⟩ = false := by
  obtain ⟨A, B, U, G, p, q, v, k, f⟩ := h.op
  exact ⟨⟨_, (k.cell i).trans (Array.getElem?_eq_getElem (by simp [opC]; omega))⟩, k.frozen i⟩
theorem OpS.gle {w0 W wr : World} {b D g : Nat} {cv : Value} {cs : List Int} {K : Int} (h : OpS w0 W wr b D g cv cs K) : g + 1 ≤ wr.heap.size := by
  obtain ⟨A, B, U, G, p, q, v, k, f⟩ := h.op
  exact k.lt
theorem wild64 {w0 W : World} {b : Nat} {cv : Value} {cs : List Int} (h : Sc w0 W b cv cs) :
    Calls Tryz.prog 25 #[.pointer (some ⟨b, 0, none⟩)] W fun e w' => ∃ z : Int, e = .returned (.int .i64 z) ∧ In64 z ∧ Sc w0 w' b cv cs ∧ W.grownBy w' (some b) := by
  have HD := hide (Dn.start h)
  clear h
  go_enter Tryz.func25, Tryz.ntmps25
  go_wp2_with fail
  refine (HD.out.sc.N 6 (by omega) (by omega)).mono ?_
  rintro e w1 ⟨z, rfl, hz0, hz1, s1, d1⟩
  have H1 := hide (HD.out.draw s1 d1)
  clear s1 d1
  have hz : z = 0 ∨ z = 1 ∨ z = 2 ∨ z = 3 ∨ z = 4 ∨ z = 5 := by omega
  clear hz0 hz1
  rcases hz with rfl | rfl | rfl | rfl | rfl | rfl
  · go_wp2
    go_ret
    exact ⟨_, rfl, by unfold In64; omega, H1.out.sc, H1.out.gb⟩
  · go_wp2
    go_ret
    exact ⟨_, rfl, by unfold In64; omega, H1.out.sc, H1.out.gb⟩
  · go_wp2
    go_ret
    exact ⟨_, rfl, by unfold In64; omega, H1.out.sc, H1.out.gb⟩
  · go_wp2_with fail
    refine (H1.out.sc.N 100000 (by omega) (by omega)).mono ?_
    rintro e w2 ⟨z, rfl, hz0, hz1, s2, d2⟩
    have H2 := hide (H1.out.draw s2 d2)
    clear s2 d2
    go_wp2
    go_ret
    exact ⟨_, rfl, by unfold In64; omega, H2.out.sc, H2.out.gb⟩
  · go_wp2_with fail
    refine (H1.out.sc.N 1000 (by omega) (by omega)).mono ?_
    rintro e w2 ⟨z, rfl, hz0, hz1, s2, d2⟩
    have H2 := hide (H1.out.draw s2 d2)
    clear s2 d2
    go_wp2
    go_ret
    exact ⟨_, rfl, by unfold In64; omega, H2.out.sc, H2.out.gb⟩
  · go_wp2_with fail
    refine (H1.out.sc.N 20 (by omega) (by omega)).mono ?_
    rintro e w2 ⟨z, rfl, hz0, hz1, s2, d2⟩
    have H2 := hide (H1.out.draw s2 d2)
    clear s2 d2
    go_wp2
    go_ret
    exact ⟨_, rfl, by unfold In64; omega, H2.out.sc, H2.out.gb⟩

end Go.Proofs.YtohmjfagbhnieaaGreatDoor

namespace Go.Proofs.YtohmjfagbhnieaaGreatDoor
set_option linter.unusedVariables false
set_option linter.unusedSimpArgs false
open Go.RowKit

theorem own_drawB {wr w' : World} {base b n : Nat} {v : Value} {xs : List Value} (h : wr.ownsRow base 5 1 v n xs) (hg : wr.grownBy w' (some b)) (hb : b < base) : w'.ownsRow base 5 1 v n xs :=
  h.kept hg (by
    cases hv : v.ownBlock with
    | none => exact .inl rfl
    | some k => exact .inr (fun e => by have := (h.lt k hv).1; injection e with e; omega))
theorem Byt.app {a b : List Int} (h : Byt a) (k : Byt b) : Byt (a ++ b) := fun z hz => (List.mem_append.mp hz).elim (h z) (k z)
theorem Byt.rep (n : Nat) : Byt (List.replicate n 0) := fun z hz => by rw [List.eq_of_mem_replicate hz]; omega
theorem own_rep {w : World} {base n : Nat} {v : Value} (h : w.ownsRow base 5 1 v n (List.replicate n (.int .u8 0))) : w.ownsRow base 5 1 v n ((List.replicate n (0 : Int)).map (Value.int .u8)) := by rw [List.map_replicate]; exact h
theorem own_setRowB {w : World} {base : Nat} {e : TypeId} {v : Value} {n : Nat} {xs : List Value} (hr : w.ownsRow base e 1 v n xs) {g : Nat} {cs : Array Value} (hb : g < base) : (w.setRow g cs).ownsRow base e 1 v n xs :=
  own_rowO hr g cs hb
theorem OpF.other {wr : World} {g S : Nat} {A B : Int} {p q : ByteArray} {v : Value} {C : Array Value} (h : OpF wr (g + 1) A B p q v) (hg : S + 2 ≤ g) : OpF (wr.setRow (S + 1) C) S A B p q v := by
  obtain ⟨h1, h2, h3, h4, zs, h5, h6, h7⟩ := h
  refine ⟨h1, h2, h3, h4, zs, h5, h6, own_mono (own_setRowB h7 (by omega)) (by omega)⟩
theorem join3 (w : World) (a1 a2 a3 : Option Addr) (c1 c2 c3 : Nat) {g : Nat} (y1 y2 y3 : List Int) (l1 : y1.length = 512) (l2 : y2.length = 512) (l3 : y3.length = 512) (o1 : w.ownsRow g 5 1 (.slice a1 512 c1) 512 (y1.map (Value.int .u8))) (o2 : w.ownsRow g 5 1 (.slice a2 512 c2) 512 (y2.map (Value.int .u8))) (o3 : w.ownsRow g 5 1 (.slice a3 512 c3) 512 (y3.map (Value.int .u8))) :
    Calls Tryz.prog 24 #[.slice (some ⟨w.heap.size, 0, none⟩) 3 3] (w.alloc (.cells #[.slice a1 512 c1, .slice a2 512 c2, .slice a3 512 c3] 22)) fun e w' => ∃ v', e = .returned v' ∧ w'.ownsRow (w.heap.size + 1) 5 1 v' 1536 ((y1 ++ (y2 ++ y3)).map (Value.int .u8)) ∧ Below (w.alloc (.cells #[.slice a1 512 c1, .slice a2 512 c2, .slice a3 512 c3] 22)).heap.size (w.alloc (.cells #[.slice a1 512 c1, .slice a2 512 c2, .slice a3 512 c3] 22)) w' := by
  have hk := Blk.new w #[.slice a1 512 c1, .slice a2 512 c2, .slice a3 512 c3] 22
  have hb : Below w.heap.size w (w.alloc (.cells #[.slice a1 512 c1, .slice a2 512 c2, .slice a3 512 c3] 22)) := (Below.refl _ _).alloc (Nat.le_refl _) _
  have hf : [y1, y2, y3].flatten = y1 ++ (y2 ++ y3) := by simp
  have r1 := Rd.own (own_below o1 hb)
  have r2 := Rd.own (own_below o2 hb)
  have r3 := Rd.own (own_below o3 hb)
  refine (joinL_any w.heap.size 3 3 [.slice a1 512 c1, .slice a2 512 c2, .slice a3 512 c3] [y1, y2, y3] _ (fun j v hj => (hk.cell j).trans ?_) ⟨r1, r2, r3, trivial⟩ rfl (by omega) (by rw [hf, List.length_append, List.length_append]; omega) (by simp)).mono ?_
  · rw [← hj]; simp
  · rintro e w' ⟨v', rfl, ho, hbb⟩
    rw [hf, show (y1 ++ (y2 ++ y3)).length = 1536 by rw [List.length_append, List.length_append]; omega, World.size_alloc] at ho
    exact ⟨v', rfl, ho, hbb⟩
end Go.Proofs.YtohmjfagbhnieaaGreatDoor
