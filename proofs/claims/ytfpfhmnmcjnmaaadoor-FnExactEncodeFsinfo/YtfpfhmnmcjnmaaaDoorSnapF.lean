/- EncodeSnap of the program. -/
import Derived.Test.YtfpfhmnmcjnmaaaDoorSnapD
namespace Go.Proofs.YtfpfhmnmcjnmaaaDoor
set_option linter.unusedVariables false
set_option linter.unusedSimpArgs false
open Go.RowKit

def encS (pl : Int) (nm : ByteArray) (ge cl s : Int) (ds : List Int) (p q : Int) : List Int := if rightS pl nm ge cl s ds p q = true then sealed (bytesS pl.toNat nm ge.toNat cl.toNat s ds p q) else []
def codeS (pl : Int) (nm : ByteArray) (ge cl s : Int) (ds : List Int) (p q : Int) : Int := if rightS pl nm ge cl s ds p q = true then 0 else 7
theorem le_few : ∀ (m n : Nat), ∀ z ∈ le m n, 0 ≤ z ∧ z < 256
  | 0, _, z, h => by cases h
  | m + 1, n, z, h => by
    rw [le, List.mem_cons] at h
    rcases h with rfl | h
    · omega
    · exact le_few m _ z h
theorem bytesS_bd (a : Nat) (nm : ByteArray) (b c : Nat) (s : Int) (ds : List Int) (p q : Int) : ∀ z ∈ bytesS a nm b c s ds p q, 0 ≤ z ∧ z < 256 := by
  intro z h
  unfold bytesS at h
  simp only [List.mem_append] at h
  rcases h with ((((((h | h) | h) | h) | h) | h) | h) | h
  · simp only [snapLet, List.mem_cons, List.not_mem_nil, or_false] at h
    omega
  · exact le_few _ _ z h
  · exact le_few _ _ z h
  · exact strInts_bd nm z h
  · rw [(List.mem_replicate.1 h).2]; omega
  · exact le_few _ _ z h
  · exact le_few _ _ z h
  · unfold bytesR bytesW at h
    rw [List.mem_append] at h
    rcases h with h | h
    · exact le_few _ _ z h
    · obtain ⟨v, _, hv⟩ := List.mem_flatMap.1 h
      exact le_few _ _ z hv
theorem chk_size {nm : ByteArray} (h : (Chk.chkS nm == 0) = true) : nm.size ≤ 26 ∧ 0 < nm.size := by
  have h0 : Chk.chkS nm = 0 := by simpa using h
  unfold Chk.chkS at h0
  split at h0
  · omega
  · rename_i hn
    split at h0
    · omega
    · refine ⟨by omega, ?_⟩
      rcases Nat.eq_zero_or_pos nm.size with hz | hz
      · exact absurd (.inl (by rw [ByteArray.toList_eq]; exact List.eq_nil_of_length_eq_zero (by rw [Array.length_toList]; exact hz))) hn
      · exact hz
theorem snap_bd {pl : Int} {nm : ByteArray} {ge cl s : Int} {ds : List Int} {p q : Int} (hd : ds.length = 12) (h : rightS pl nm ge cl s ds p q = true) : (0 ≤ pl ∧ pl < 256) ∧ (nm.size ≤ 26 ∧ 0 < nm.size) ∧ (0 ≤ ge ∧ ge < 281474976710656) ∧ (0 ≤ cl ∧ cl < 281474976710656) ∧ (0 ≤ s ∧ s ≤ 262144) ∧ ∀ z ∈ ds ++ [p, q], 0 ≤ z ∧ z < 2048 := by
  unfold rightS at h
  simp only [Bool.and_eq_true] at h
  obtain ⟨⟨⟨⟨h1, h2⟩, h3⟩, h4⟩, h5, _⟩ := h
  have g1 := wi_true h1
  have g3 := wi_true h3
  have g4 := wi_true h4
  have g5 := right_bd hd h5
  exact ⟨by omega, chk_size h2, by omega, by omega, g5.1, g5.2⟩

set_option maxRecDepth 100000 in
set_option maxHeartbeats 1000000 in
theorem implS_false (pl : Int) (nm : ByteArray) (ge cl s : Int) (ds : List Int) (p q : Int) (w : World) (hd : ds.length = 12) (hn : nm.size ≤ maxLen) (hr : rightS pl nm ge cl s ds p q = false) (hg : ErrT w) :
    Calls Tryd.prog 39 #[.agg (snapC pl nm ge cl s ds p q)] w fun e w' => e = .returned (.tuple #[.slice none 0 0, .int .i64 7]) ∧ Below w.heap.size w w' := by
  have HR := hide hr
  have HD := hide hd
  have HN := hide hn
  have HE := hide hg
  have HZ := hide (show (snapC pl nm ge cl s ds p q).size = 19 from snapC_size _ _ _ _ _ _ _ _ HD.out)
  have K0 := hide (And.intro (Blk.new w (snapC pl nm ge cl s ds p q) 67) (show Below w.heap.size w (w.alloc (.cells (snapC pl nm ge cl s ds p q) 67)) from (Below.refl _ _).alloc (Nat.le_refl _) _))
  clear hd hr hg hn
  go_enter Tryd.func39, Tryd.ntmps39
  go_wp2_with (first | (refine wpList_load_row rfl 67 _ rfl w.heap.size rfl 67 (snapC pl nm ge cl s ds p q) (0, 0) _ K0.out.1 Tryd.underlying67 rfl (by rw [HZ.out]; exact info19) ?_) | (go_at_call 81; fail))
  refine (snapFault_any pl nm ge cl s ds p q 7 _ HD.out HN.out).mono ?_
  rintro e w1 ⟨ev, rfl, hf, b1⟩
  have B1 := hide (K0.out.2.trans (b1.mono K0.out.2.size))
  clear b1
  rcases hf with ⟨hr, rfl⟩ | ⟨hr, m, hm⟩
  · rw [HR.out] at hr; cases hr
  · obtain ⟨t', x', rfl⟩ := hm.iface
    have H4 := hide hm
    clear hr hm
    go_wp2_with (go_at_call 48; refine (codeOf_any m _ 7 _ _ H4.out (HE.out.below B1.out)).mono ?_; rintro e w2 ⟨rfl, hb2⟩)
    go_ret2
    exact ⟨rfl, B1.out.trans (hb2.mono B1.out.size)⟩

set_option maxRecDepth 100000 in
set_option maxHeartbeats 1000000 in
theorem implS_true (a : Nat) (nm : ByteArray) (b c : Nat) (s : Int) (ds : List Int) (p q : Int) (w : World) (hd : ds.length = 12) (h0 : a < 256) (hn : nm.size ≤ 26) (h1 : b < 281474976710656) (h2 : c < 281474976710656) (hs : 0 ≤ s ∧ s ≤ 262144) (hp : ∀ z ∈ ds ++ [p, q], 0 ≤ z ∧ z < 2048) (hr : rightS (a : Int) nm (b : Int) (c : Int) s ds p q = true) (hL : LetS w) :
    Calls Tryd.prog 39 #[.agg (snapC (a : Int) nm (b : Int) (c : Int) s ds p q)] w fun e w' => ∃ v', e = .returned (.tuple #[v', .int .i64 0]) ∧ w'.ownsRow w.heap.size 5 1 v' 512 ((sealed (bytesS a nm b c s ds p q)).map (Value.int .u8)) ∧ Below w.heap.size w w' := by
  have HR := hide hr
  have HD := hide hd
  have HL := hide hL
  have HN := hide (show nm.size ≤ maxLen from by unfold maxLen; omega)
  have HZ := hide (show (snapC (a : Int) nm (b : Int) (c : Int) s ds p q).size = 19 from snapC_size _ _ _ _ _ _ _ _ HD.out)
  have K0 := hide (And.intro (Blk.new w (snapC (a : Int) nm (b : Int) (c : Int) s ds p q) 67) (show Below w.heap.size w (w.alloc (.cells (snapC (a : Int) nm (b : Int) (c : Int) s ds p q) 67)) from (Below.refl _ _).alloc (Nat.le_refl _) _))
  have HC := hide (fun w hL => laySnap_any a nm b c s ds p q w hd h0 hn h1 h2 hs hp (bytesS_bd _ _ _ _ _ _ _ _) hL)
  clear hr h0 h1 h2 hs hp hn hd hL
  go_enter Tryd.func39, Tryd.ntmps39
  go_wp2_with (first | (refine wpList_load_row rfl 67 _ rfl w.heap.size rfl 67 (snapC (a : Int) nm (b : Int) (c : Int) s ds p q) (0, 0) _ K0.out.1 Tryd.underlying67 rfl (by rw [HZ.out]; exact info19) ?_) | (go_at_call 81; fail))
  refine (snapFault_any (a : Int) nm (b : Int) (c : Int) s ds p q 7 _ HD.out HN.out).mono ?_
  rintro e w1 ⟨ev, rfl, hf, b1⟩
  have K1 := hide (And.intro (K0.out.1.below b1 K0.out.1.lt) (K0.out.2.trans (b1.mono K0.out.2.size)))
  clear b1
  rcases hf with ⟨hr, rfl⟩ | ⟨hr, m, hm⟩
  · clear hr
    go_wp2_with (first | (refine wpList_load_row rfl 67 _ rfl w.heap.size rfl 67 (snapC (a : Int) nm (b : Int) (c : Int) s ds p q) (0, 0) _ K1.out.1 Tryd.underlying67 rfl (by rw [HZ.out]; exact info19) ?_) | (go_at_call 82; fail))
    refine (HC.out _ (HL.out.below K1.out.2)).mono ?_
    rintro e w2 ⟨v2, rfl, o2, b2⟩
    have H2 := hide (And.intro (own_mono o2 K1.out.2.size) (K1.out.2.trans (b2.mono K1.out.2.size)))
    clear o2 b2
    go_wp2
    go_ret2
    exact ⟨_, rfl, H2.out.1, H2.out.2⟩
  · rw [HR.out] at hr; cases hr

theorem encS_len (pl : Int) (nm : ByteArray) (ge cl s : Int) (ds : List Int) (p q : Int) (hd : ds.length = 12) : (encS pl nm ge cl s ds p q).length ≤ 512 := by
  unfold encS
  split
  · rename_i h
    rw [sealed_len _ (by rw [bytesS_len _ _ _ _ _ _ _ _ hd (snap_bd hd h).2.1.1]; omega)]
    omega
  · simp
theorem implS_any (pl : Int) (nm : ByteArray) (ge cl s : Int) (ds : List Int) (p q : Int) (w : World) (hd : ds.length = 12) (hn : nm.size ≤ maxLen) (hg : ErrT w) (hL : LetS w) :
    Calls Tryd.prog 39 #[.agg (snapC pl nm ge cl s ds p q)] w fun e w' => ∃ v', e = .returned (.tuple #[v', .int .i64 (codeS pl nm ge cl s ds p q)]) ∧ w'.ownsRow w.heap.size 5 1 v' (encS pl nm ge cl s ds p q).length ((encS pl nm ge cl s ds p q).map (Value.int .u8)) ∧ Below w.heap.size w w' := by
  cases hr : rightS pl nm ge cl s ds p q with
  | false =>
    refine (implS_false pl nm ge cl s ds p q w hd hn hr hg).mono ?_
    rintro e w' ⟨rfl, hb⟩
    refine ⟨_, by unfold codeS; rw [hr]; rfl, ?_, hb⟩
    unfold encS
    rw [hr]
    exact World.ownsRow_nil _ _ _ _
  | true =>
    obtain ⟨b0, b1, b2, b3, bs, bp⟩ := snap_bd hd hr
    obtain ⟨a, rfl⟩ := Int.eq_ofNat_of_zero_le b0.1
    obtain ⟨b, rfl⟩ := Int.eq_ofNat_of_zero_le b2.1
    obtain ⟨c, rfl⟩ := Int.eq_ofNat_of_zero_le b3.1
    refine (implS_true a nm b c s ds p q w hd (by omega) b1.1 (by omega) (by omega) bs bp hr hL).mono ?_
    rintro e w' ⟨v', rfl, ho, hb⟩
    refine ⟨v', by unfold codeS; rw [hr]; rfl, ?_, hb⟩
    unfold encS
    rw [if_pos hr]
    simp only [Int.toNat_natCast]
    rw [sealed_len _ (by rw [bytesS_len _ _ _ _ _ _ _ _ hd b1.1]; omega)]
    exact ho
end Go.Proofs.YtfpfhmnmcjnmaaaDoor
