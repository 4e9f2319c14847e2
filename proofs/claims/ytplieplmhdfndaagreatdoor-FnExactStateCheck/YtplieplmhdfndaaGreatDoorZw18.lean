/- EncodeSnap of the model: the bytes. -/
import Derived.Test.YtplieplmhdfndaaGreatDoorZw16
import Derived.Test.YtplieplmhdfndaaGreatDoorZw17
import Derived.Lib.ConvBytes
import Derived.Lib.SmallJoins
namespace Go.Proofs.YtplieplmhdfndaaGreatDoor
set_option linter.unusedVariables false
set_option linter.unusedSimpArgs false
open Go.RowKit

theorem wp_convert_sb {P : Program} {o : Oper} {a : Act} {w : World} {K : Act → World → Prop} {Q : Exit → Act → World → Prop} (src dst e : TypeId) (x : Operand) (ho : o.op = .convert src dst x) (s : ByteArray) (hx : a.eval x = .string s)
    (hs : P.underlying src = some .string) (hd : P.underlying dst = some (.slice e)) (he : P.underlying e = some (.int .u8))
    (h : K (a.put o.dst (.slice (some ⟨w.heap.size, 0, none⟩) s.size (grownCap w s.size 0 e))) (Go.Lib.bytesWorld w e s)) : o.wp P a w K Q := by
  unfold Oper.wp execOp
  simp only [ho, hx, Sem.run_bind, Sem.run_pure, Result.andThen_ok, Go.Lib.run_convert_string_bytes w src dst e s hs hd he]
  exact h
theorem rd_bytesWorld (w : World) (s : ByteArray) (hs : s.size ≤ maxLen) : Rd .u8 (Go.Lib.bytesWorld w 5 s) (.slice (some ⟨w.heap.size, 0, none⟩) s.size (grownCap w s.size 0 5)) (strInts s) := by
  refine ⟨some ⟨w.heap.size, 0, none⟩, grownCap w s.size 0 5, by rw [strInts_len], by rw [strInts_len]; exact hs, fun _ => ⟨w.heap.size, 0, rfl, by rw [Go.Lib.bytesWorld_size]; omega, fun i hi => ?_⟩, by rw [strInts_len]; exact grownCap_ge _ _ _ _, grownCap_le_maxLen _ _ _ _ hs⟩
  rw [strInts_len] at hi
  rw [Nat.zero_add, Go.Lib.bytesWorld_cell w _ s i hi]
  unfold strInts
  have hl : i < s.data.size := hi
  simp only [List.getD_eq_getElem?_getD, List.getElem?_map, Array.getElem?_toList, Array.getElem?_eq_getElem hl, Option.map_some, Option.getD_some]
theorem fill_pos (v : Value) (zs : List Int) (n : Nat) (w : World) (h : Rd .u8 w v zs) (h0 : 0 < zs.length) (h1 : zs.length ≤ n) (h2 : n ≤ 100000) :
    Calls Tryz.prog 131 #[v, .int .i64 n] w fun e w' => ∃ g cp, e = .returned (.slice (some ⟨g, 0, none⟩) n cp) ∧ w'.ownsRow w.heap.size 5 1 (.slice (some ⟨g, 0, none⟩) n cp) n ((zs ++ List.replicate (n - zs.length) 0).map (Value.int .u8)) ∧ Below w.heap.size w w' := by
  refine (fill_any v zs n w h h0 h1 h2).mono ?_
  rintro e w' ⟨v', rfl, ho, hb⟩
  rcases ho.2 with ⟨rfl, hn0⟩ | ⟨g, cap, cur, rfl, _⟩
  · omega
  · exact ⟨g, cap, rfl, ho, hb⟩
theorem join_snap (a : Nat) (nm : ByteArray) (b c : Nat) (s : Int) (ds : List Int) (p q : Int) (hn : nm.size ≤ 26) : ([([snapLet, le 1 a, le 1 nm.size, strInts nm ++ List.replicate (26 - (strInts nm).length) 0, le 4 0] : List (List Int)).flatten, le 8 b, le 8 c, bytesR s ds p q] : List (List Int)).flatten = bytesS a nm b c s ds p q := by
  have e : (List.replicate (26 - (strInts nm).length) 0 : List Int) ++ le 4 0 = List.replicate (40 - (10 + nm.size)) 0 := by
    rw [strInts_len, show le 4 0 = List.replicate 4 0 from rfl, List.replicate_append_replicate]
    congr 1
    omega
  unfold bytesS
  rw [← e]
  simp only [List.flatten_cons, List.flatten_nil, List.append_nil, List.append_assoc]


/-- A slice of n bytes with an address, that reads so. -/
def Sl (n : Nat) (lst : List Int) (v : Value) (w : World) : Prop := (∃ g cp, v = .slice (some ⟨g, 0, none⟩) n cp) ∧ Rd .u8 w v lst
theorem Sl.below {n : Nat} {lst : List Int} {v : Value} {w w' : World} (h : Sl n lst v w) (hb : Below w.heap.size w w') : Sl n lst v w' := ⟨h.1, h.2.below hb⟩
/-- What the values of the region that lays the first part are. -/
def VS (B b : Nat) (A : Nat) (nm : ByteArray) (i : Nat) (v : Value) (w : World) : Prop := match i with
  | 0 => ∃ g, v = .slice (some ⟨g, 0, none⟩) 8 8 ∧ B ≤ g ∧ g < w.heap.size ∧ Rd .u8 w v snapLet ∧ ∃ fr, w.heap[g]? = some (.cells #[.int .u8 115, .int .u8 110, .int .u8 97, .int .u8 112, .int .u8 115, .int .u8 104, .int .u8 111, .int .u8 116] 5 fr)
  | 1 => Sl 8 snapLet v w
  | 2 => v = .pointer (some ⟨b, 0, none⟩)
  | 3 => v = .int .i64 (A : Int)
  | 4 => Sl 1 (le 1 A) v w
  | 5 => v = .pointer (some ⟨b, 1, none⟩)
  | 6 => v = .string nm
  | 7 => v = .int .i64 (nm.size : Int)
  | 8 => Sl 1 (le 1 nm.size) v w
  | 9 => v = .pointer (some ⟨b, 1, none⟩)
  | 10 => v = .string nm
  | 11 => Rd .u8 w v (strInts nm)
  | 12 => Sl 26 (strInts nm ++ List.replicate (26 - (strInts nm).length) 0) v w
  | 13 => Sl 4 (le 4 0) v w
  | 14 => ∃ g, v = .slice (some ⟨g, 0, none⟩) 5 5 ∧ g < w.heap.size ∧ ∃ vs, (∀ j u, vs[j]? = some u → w.cell? ⟨g, j, none⟩ = some u) ∧ AllRd w vs [snapLet, le 1 A, le 1 nm.size, strInts nm ++ List.replicate (26 - (strInts nm).length) 0, le 4 0]
  | 15 => Rd .u8 w v ([snapLet, le 1 A, le 1 nm.size, strInts nm ++ List.replicate (26 - (strInts nm).length) 0, le 4 0] : List (List Int)).flatten
  | 16 => Rd .u8 w v ([snapLet, le 1 A, le 1 nm.size, strInts nm ++ List.replicate (26 - (strInts nm).length) 0, le 4 0] : List (List Int)).flatten
  | _ => False
theorem VS.below {B b A : Nat} {nm : ByteArray} {w w' : World} (hb : Below w.heap.size w w') : ∀ (j : Nat) (u : Value), VS B b A nm j u w → VS B b A nm j u w'
  | 0, _, ⟨g, h1, h2, h3, h4, h5⟩ => ⟨g, h1, h2, Nat.lt_of_lt_of_le h3 hb.size, h4.below hb, by rw [hb.block g h3]; exact h5⟩
  | 1, _, h => Sl.below h hb
  | 2, _, h => h
  | 3, _, h => h
  | 4, _, h => Sl.below h hb
  | 5, _, h => h
  | 6, _, h => h
  | 7, _, h => h
  | 8, _, h => Sl.below h hb
  | 9, _, h => h
  | 10, _, h => h
  | 11, _, h => Rd.below h hb
  | 12, _, h => Sl.below h hb
  | 13, _, h => Sl.below h hb
  | 14, _, ⟨g, h1, h2, vs, h3, h4⟩ => ⟨g, h1, Nat.lt_of_lt_of_le h2 hb.size, vs, fun j u hu => (hb.cell (p := ⟨g, j, none⟩) h2).trans (h3 j u hu), h4.below hb⟩
  | 15, _, h => Rd.below h hb
  | 16, _, h => Rd.below h hb
  | _ + 17, _, h => h
theorem VS.freeze {B b A : Nat} {nm : ByteArray} {w : World} (g' m : Nat) : ∀ (j : Nat) (u : Value), VS B b A nm j u w → VS B b A nm j u (w.freeze ⟨g', m, none⟩ 1)
  | 0, _, ⟨g, h1, h2, h3, h4, h5⟩ => ⟨g, h1, h2, by rw [freeze_size]; exact h3, h4.freeze g' m, freeze_row w g' m h5⟩
  | 1, _, h => ⟨h.1, h.2.freeze g' m⟩
  | 2, _, h => h
  | 3, _, h => h
  | 4, _, h => ⟨h.1, h.2.freeze g' m⟩
  | 5, _, h => h
  | 6, _, h => h
  | 7, _, h => h
  | 8, _, h => ⟨h.1, h.2.freeze g' m⟩
  | 9, _, h => h
  | 10, _, h => h
  | 11, _, h => Rd.freeze h g' m
  | 12, _, h => ⟨h.1, h.2.freeze g' m⟩
  | 13, _, h => ⟨h.1, h.2.freeze g' m⟩
  | 14, _, ⟨g, h1, h2, vs, h3, h4⟩ => ⟨g, h1, by rw [freeze_size]; exact h2, vs, fun j u hu => by rw [freeze_cell]; exact h3 j u hu, h4.freeze g' m⟩
  | 15, _, h => Rd.freeze h g' m
  | 16, _, h => Rd.freeze h g' m
  | _ + 17, _, h => h

/-- The values of the second region. -/
def VT (B b : Nat) (J : List Int) (a : Nat) (nm : ByteArray) (x y : Nat) (s : Int) (ds : List Int) (p q : Int) (x4 : Value) (i : Nat) (v : Value) (w : World) : Prop := match i with
  | 0 => v = x4
  | 1 => v = .pointer (some ⟨b, 2, none⟩)
  | 2 => v = .int .i64 (x : Int)
  | 3 => Sl 8 (le 8 x) v w
  | 4 => v = .pointer (some ⟨b, 3, none⟩)
  | 5 => v = .int .i64 (y : Int)
  | 6 => Sl 8 (le 8 y) v w
  | 7 => v = .pointer (some ⟨b, 4, none⟩)
  | 8 => v = .agg (cellsI (rootI s ds p q))
  | 9 => Sl 64 (bytesR s ds p q) v w
  | 10 => ∃ g, v = .slice (some ⟨g, 0, none⟩) 4 4 ∧ g < w.heap.size ∧ ∃ vs, (∀ j u, vs[j]? = some u → w.cell? ⟨g, j, none⟩ = some u) ∧ AllRd w vs [J, le 8 x, le 8 y, bytesR s ds p q]
  | 11 => Rd .u8 w v ([J, le 8 x, le 8 y, bytesR s ds p q] : List (List Int)).flatten
  | 12 => w.ownsRow B 5 1 v 512 ((sealed (bytesS a nm x y s ds p q)).map (Value.int .u8))
  | 13 => w.ownsRow B 5 1 v 512 ((sealed (bytesS a nm x y s ds p q)).map (Value.int .u8))
  | 14 => v = .int .i64 0
  | _ => False
theorem VT.below {B b : Nat} {J : List Int} {a : Nat} {nm : ByteArray} {x y : Nat} {s : Int} {ds : List Int} {p q : Int} {x4 : Value} {w w' : World} (hb : Below w.heap.size w w') : ∀ (j : Nat) (u : Value), VT B b J a nm x y s ds p q x4 j u w → VT B b J a nm x y s ds p q x4 j u w'
  | 0, _, h => h
  | 1, _, h => h
  | 2, _, h => h
  | 3, _, h => Sl.below h hb
  | 4, _, h => h
  | 5, _, h => h
  | 6, _, h => Sl.below h hb
  | 7, _, h => h
  | 8, _, h => h
  | 9, _, h => Sl.below h hb
  | 10, _, ⟨g, h1, h2, vs, h3, h4⟩ => ⟨g, h1, Nat.lt_of_lt_of_le h2 hb.size, vs, fun j u hu => (hb.cell (p := ⟨g, j, none⟩) h2).trans (h3 j u hu), h4.below hb⟩
  | 11, _, h => Rd.below h hb
  | 12, _, h => own_below h hb
  | 13, _, h => own_below h hb
  | 14, _, h => h
  | _ + 15, _, h => h

end Go.Proofs.YtplieplmhdfndaaGreatDoor
