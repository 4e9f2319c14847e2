/- EncodeFsinfo of the program. -/
import Derived.Test.YtbnjpnhojimaoaaDoorFsB
import Derived.Test.YtbnjpnhojimaoaaDoorSnapF
namespace Go.Proofs.YtbnjpnhojimaoaaDoor
set_option linter.unusedVariables false
set_option linter.unusedSimpArgs false
open Go.RowKit

def encFs (gen bl cu ck op ev lg s1 : Int) (ds1 : List Int) (p1 q1 s2 : Int) (ds2 : List Int) (p2 q2 : Int) (sn : List Int) : List Int := if rightF gen bl cu ck op ev lg s1 ds1 p1 q1 s2 ds2 p2 q2 sn = true then sealed (bytesF gen.toNat bl.toNat cu.toNat ck.toNat op.toNat ev.toNat lg.toNat s1 ds1 p1 q1 s2 ds2 p2 q2 sn) else []
def codeFs (gen bl cu ck op ev lg s1 : Int) (ds1 : List Int) (p1 q1 s2 : Int) (ds2 : List Int) (p2 q2 : Int) (sn : List Int) : Int := if rightF gen bl cu ck op ev lg s1 ds1 p1 q1 s2 ds2 p2 q2 sn = true then 0 else 7
theorem bytesR_bd (s : Int) (ds : List Int) (p q : Int) : ∀ z ∈ bytesR s ds p q, 0 ≤ z ∧ z < 256 := by
  intro z h
  unfold bytesR bytesW at h
  rw [List.mem_append] at h
  rcases h with h | h
  · exact le_few _ _ z h
  · obtain ⟨v, _, hv⟩ := List.mem_flatMap.1 h
    exact le_few _ _ z hv
theorem bytesF_bd (gen bl cu ck op ev lg : Nat) (s1 : Int) (ds1 : List Int) (p1 q1 s2 : Int) (ds2 : List Int) (p2 q2 : Int) (sn : List Int) : ∀ z ∈ bytesF gen bl cu ck op ev lg s1 ds1 p1 q1 s2 ds2 p2 q2 sn, 0 ≤ z ∧ z < 256 := by
  intro z h
  unfold bytesF headF at h
  simp only [List.mem_append] at h
  rcases h with (((((((((h | h) | h) | h) | h) | h) | h) | h) | h) | h) | h
  · simp only [fsLet, List.mem_cons, List.not_mem_nil, or_false] at h
    omega
  · exact le_few _ _ z h
  · exact le_few _ _ z h
  · exact le_few _ _ z h
  · exact le_few _ _ z h
  · exact le_few _ _ z h
  · exact le_few _ _ z h
  · exact le_few _ _ z h
  · exact bytesR_bd _ _ _ _ z h
  · exact bytesR_bd _ _ _ _ z h
  · unfold bytesW at h
    obtain ⟨v, _, hv⟩ := List.mem_flatMap.1 h
    exact le_few _ _ z hv
/-- What a right root record holds. -/
structure FsBd (gen bl cu ck op ev lg s1 : Int) (ds1 : List Int) (p1 q1 s2 : Int) (ds2 : List Int) (p2 q2 : Int) (sn : List Int) : Prop where
  g0 : 0 ≤ gen ∧ gen < 281474976710656
  g1 : 0 ≤ bl ∧ bl < 2049
  g2 : 0 ≤ cu ∧ cu < 2049
  g3 : 0 ≤ ck ∧ ck < 281474976710656
  g4 : 0 ≤ op ∧ op < 281474976710656
  g5 : 0 ≤ ev ∧ ev < 2049
  g6 : 0 ≤ lg ∧ lg < 65537
  r1 : 0 ≤ s1 ∧ s1 ≤ 262144
  q1 : ∀ z ∈ ds1 ++ [p1, q1], 0 ≤ z ∧ z < 2048
  r2 : 0 ≤ s2 ∧ s2 ≤ 262144
  q2 : ∀ z ∈ ds2 ++ [p2, q2], 0 ≤ z ∧ z < 2048
  sn : ∀ z ∈ sn, 0 ≤ z ∧ z < 2048
theorem fs_bd (gen bl cu ck op ev lg s1 : Int) (ds1 : List Int) (p1 q1 s2 : Int) (ds2 : List Int) (p2 q2 : Int) (sn : List Int) (hd1 : ds1.length = 12) (hd2 : ds2.length = 12) (h : rightF gen bl cu ck op ev lg s1 ds1 p1 q1 s2 ds2 p2 q2 sn = true) : FsBd gen bl cu ck op ev lg s1 ds1 p1 q1 s2 ds2 p2 q2 sn := by
  unfold rightF at h
  simp only [Bool.and_eq_true, decide_eq_true_eq] at h
  obtain ⟨⟨⟨⟨⟨⟨⟨⟨⟨⟨⟨⟨h1, h2⟩, h3⟩, h4⟩, h5⟩, h6⟩, h7⟩, h8, _⟩, _⟩, h10⟩, _⟩, _⟩, h13⟩ := h
  have g1 := wi_true h1
  have g2 := wi_true h2
  have g3 := wi_true h3
  have g4 := wi_true h4
  have g6 := wi_true h6
  have e1 := right_bd hd1 h8
  have e2 := right_bd hd2 h10
  have g7 : lg = 0 ∨ (8192 ≤ lg ∧ lg ≤ 65536) := by unfold logB at h7; simpa using h7
  refine ⟨by omega, by omega, by omega, by omega, by omega, by omega, by omega, e1.1, e1.2, e2.1, e2.2, fun z hz => ?_⟩
  unfold snB at h13
  have := List.all_eq_true.1 h13 z hz
  unfold ptrB at this
  simp at this
  omega

set_option maxRecDepth 100000 in
set_option maxHeartbeats 1000000 in
theorem implFs_false (gen bl cu ck op ev lg s1 : Int) (ds1 : List Int) (p1 q1 s2 : Int) (ds2 : List Int) (p2 q2 : Int) (sn : List Int) (w : World) (hd1 : ds1.length = 12) (hd2 : ds2.length = 12) (hsn : sn.length = 31) (hr : rightF gen bl cu ck op ev lg s1 ds1 p1 q1 s2 ds2 p2 q2 sn = false) (hg : ErrT w) :
    Calls Tryd.prog 35 #[.agg (cellsI (fsI gen bl cu ck op ev lg s1 ds1 p1 q1 s2 ds2 p2 q2 sn))] w fun e w' => e = .returned (.tuple #[.slice none 0 0, .int .i64 7]) ∧ Below w.heap.size w w' := by
  have HR := hide hr
  have HE := hide hg
  have HZ := hide (show (cellsI (fsI gen bl cu ck op ev lg s1 ds1 p1 q1 s2 ds2 p2 q2 sn)).size = 68 from by rw [cellsI_size]; exact fsI_len _ _ _ _ _ _ _ _ _ _ _ _ _ _ _ _ hd1 hd2 hsn)
  have HC := hide (fun w => fsFault_any gen bl cu ck op ev lg s1 ds1 p1 q1 s2 ds2 p2 q2 sn 7 w hd1 hd2 hsn)
  have K0 := hide (And.intro (Blk.new w (cellsI (fsI gen bl cu ck op ev lg s1 ds1 p1 q1 s2 ds2 p2 q2 sn)) 59) (show Below w.heap.size w (w.alloc (.cells (cellsI (fsI gen bl cu ck op ev lg s1 ds1 p1 q1 s2 ds2 p2 q2 sn)) 59)) from (Below.refl _ _).alloc (Nat.le_refl _) _))
  clear hd1 hd2 hsn hr hg
  go_enter Tryd.func35, Tryd.ntmps35
  go_wp2_with (first | (refine wpList_load_row rfl 59 _ rfl w.heap.size rfl 59 (cellsI (fsI gen bl cu ck op ev lg s1 ds1 p1 q1 s2 ds2 p2 q2 sn)) (0, 0) _ K0.out.1 Tryd.underlying59 rfl (by rw [HZ.out]; exact info68) ?_) | (go_at_call 75; fail))
  refine (HC.out _).mono ?_
  rintro e w1 ⟨ev', rfl, hf, b1⟩
  have B1 := hide (K0.out.2.trans (b1.mono K0.out.2.size))
  clear b1
  rcases hf with ⟨hr, rfl⟩ | ⟨hr, m, hm⟩
  · rw [HR.out] at hr; cases hr
  · obtain ⟨t', x', rfl⟩ := hm.iface
    have H4 := hide hm
    clear hr hm
    go_wp2_with (go_at_call 48; refine (codeOf_any m _ 7 _ _ H4.out (HE.out.below B1.out)).mono ?_; rintro e w2 ⟨rfl, hb2⟩)
    go_ret2
    exact ⟨rfl, B1.out.trans (hb2.mono B1.out.size)⟩

set_option maxRecDepth 100000 in
set_option maxHeartbeats 1000000 in
theorem implFs_true (gen bl cu ck op ev lg : Nat) (s1 : Int) (ds1 : List Int) (p1 q1 s2 : Int) (ds2 : List Int) (p2 q2 : Int) (sn : List Int) (w : World) (hd1 : ds1.length = 12) (hd2 : ds2.length = 12) (hsn : sn.length = 31) (hB : FsBd (gen : Int) (bl : Int) (cu : Int) (ck : Int) (op : Int) (ev : Int) (lg : Int) s1 ds1 p1 q1 s2 ds2 p2 q2 sn) (hr : rightF (gen : Int) (bl : Int) (cu : Int) (ck : Int) (op : Int) (ev : Int) (lg : Int) s1 ds1 p1 q1 s2 ds2 p2 q2 sn = true) (hL : LetF w) :
    Calls Tryd.prog 35 #[.agg (cellsI (fsI (gen : Int) (bl : Int) (cu : Int) (ck : Int) (op : Int) (ev : Int) (lg : Int) s1 ds1 p1 q1 s2 ds2 p2 q2 sn))] w fun e w' => ∃ v', e = .returned (.tuple #[v', .int .i64 0]) ∧ w'.ownsRow w.heap.size 5 1 v' 512 ((sealed (bytesF gen bl cu ck op ev lg s1 ds1 p1 q1 s2 ds2 p2 q2 sn)).map (Value.int .u8)) ∧ Below w.heap.size w w' := by
  have HR := hide hr
  have HL := hide hL
  have HZ := hide (show (cellsI (fsI (gen : Int) (bl : Int) (cu : Int) (ck : Int) (op : Int) (ev : Int) (lg : Int) s1 ds1 p1 q1 s2 ds2 p2 q2 sn)).size = 68 from by rw [cellsI_size]; exact fsI_len _ _ _ _ _ _ _ _ _ _ _ _ _ _ _ _ hd1 hd2 hsn)
  have HF := hide (fun w => fsFault_any (gen : Int) (bl : Int) (cu : Int) (ck : Int) (op : Int) (ev : Int) (lg : Int) s1 ds1 p1 q1 s2 ds2 p2 q2 sn 7 w hd1 hd2 hsn)
  have HC := hide (fun w hL => layFs_any gen bl cu ck op ev lg s1 ds1 p1 q1 s2 ds2 p2 q2 sn w hd1 hd2 hsn (by have := hB.g0; omega) (by have := hB.g1; omega) (by have := hB.g2; omega) (by have := hB.g3; omega) (by have := hB.g4; omega) (by have := hB.g5; omega) (by have := hB.g6; omega) hB.r1 hB.q1 hB.r2 hB.q2 hB.sn (bytesF_bd _ _ _ _ _ _ _ _ _ _ _ _ _ _ _ _) hL)
  have K0 := hide (And.intro (Blk.new w (cellsI (fsI (gen : Int) (bl : Int) (cu : Int) (ck : Int) (op : Int) (ev : Int) (lg : Int) s1 ds1 p1 q1 s2 ds2 p2 q2 sn)) 59) (show Below w.heap.size w (w.alloc (.cells (cellsI (fsI (gen : Int) (bl : Int) (cu : Int) (ck : Int) (op : Int) (ev : Int) (lg : Int) s1 ds1 p1 q1 s2 ds2 p2 q2 sn)) 59)) from (Below.refl _ _).alloc (Nat.le_refl _) _))
  clear hd1 hd2 hsn hr hB hL
  go_enter Tryd.func35, Tryd.ntmps35
  go_wp2_with (first | (refine wpList_load_row rfl 59 _ rfl w.heap.size rfl 59 (cellsI (fsI (gen : Int) (bl : Int) (cu : Int) (ck : Int) (op : Int) (ev : Int) (lg : Int) s1 ds1 p1 q1 s2 ds2 p2 q2 sn)) (0, 0) _ K0.out.1 Tryd.underlying59 rfl (by rw [HZ.out]; exact info68) ?_) | (go_at_call 75; fail))
  refine (HF.out _).mono ?_
  rintro e w1 ⟨ev', rfl, hf, b1⟩
  have K1 := hide (And.intro (K0.out.1.below b1 K0.out.1.lt) (K0.out.2.trans (b1.mono K0.out.2.size)))
  clear b1
  rcases hf with ⟨hr, rfl⟩ | ⟨hr, m, hm⟩
  · clear hr
    go_wp2_with (first | (refine wpList_load_row rfl 59 _ rfl w.heap.size rfl 59 (cellsI (fsI (gen : Int) (bl : Int) (cu : Int) (ck : Int) (op : Int) (ev : Int) (lg : Int) s1 ds1 p1 q1 s2 ds2 p2 q2 sn)) (0, 0) _ K1.out.1 Tryd.underlying59 rfl (by rw [HZ.out]; exact info68) ?_) | (go_at_call 76; fail))
    refine (HC.out _ (HL.out.below K1.out.2)).mono ?_
    rintro e w2 ⟨v2, rfl, o2, b2⟩
    have H2 := hide (And.intro (own_mono o2 K1.out.2.size) (K1.out.2.trans (b2.mono K1.out.2.size)))
    clear o2 b2
    go_wp2
    go_ret2
    exact ⟨_, rfl, H2.out.1, H2.out.2⟩
  · rw [HR.out] at hr; cases hr

theorem encFs_len (gen bl cu ck op ev lg s1 : Int) (ds1 : List Int) (p1 q1 s2 : Int) (ds2 : List Int) (p2 q2 : Int) (sn : List Int) (hd1 : ds1.length = 12) (hd2 : ds2.length = 12) (hsn : sn.length = 31) : (encFs gen bl cu ck op ev lg s1 ds1 p1 q1 s2 ds2 p2 q2 sn).length ≤ 512 := by
  unfold encFs
  split
  · rename_i h
    rw [sealed_len _ (by rw [bytesF_len _ _ _ _ _ _ _ _ _ _ _ _ _ _ _ _ hd1 hd2 hsn]; omega)]
    omega
  · simp
theorem implFs_any (gen bl cu ck op ev lg s1 : Int) (ds1 : List Int) (p1 q1 s2 : Int) (ds2 : List Int) (p2 q2 : Int) (sn : List Int) (w : World) (hd1 : ds1.length = 12) (hd2 : ds2.length = 12) (hsn : sn.length = 31) (hg : ErrT w) (hL : LetF w) :
    Calls Tryd.prog 35 #[.agg (cellsI (fsI gen bl cu ck op ev lg s1 ds1 p1 q1 s2 ds2 p2 q2 sn))] w fun e w' => ∃ v', e = .returned (.tuple #[v', .int .i64 (codeFs gen bl cu ck op ev lg s1 ds1 p1 q1 s2 ds2 p2 q2 sn)]) ∧ w'.ownsRow w.heap.size 5 1 v' (encFs gen bl cu ck op ev lg s1 ds1 p1 q1 s2 ds2 p2 q2 sn).length ((encFs gen bl cu ck op ev lg s1 ds1 p1 q1 s2 ds2 p2 q2 sn).map (Value.int .u8)) ∧ Below w.heap.size w w' := by
  cases hr : rightF gen bl cu ck op ev lg s1 ds1 p1 q1 s2 ds2 p2 q2 sn with
  | false =>
    refine (implFs_false gen bl cu ck op ev lg s1 ds1 p1 q1 s2 ds2 p2 q2 sn w hd1 hd2 hsn hr hg).mono ?_
    rintro e w' ⟨rfl, hb⟩
    refine ⟨_, by unfold codeFs; rw [hr]; rfl, ?_, hb⟩
    unfold encFs
    rw [hr]
    exact World.ownsRow_nil _ _ _ _
  | true =>
    have hB := fs_bd gen bl cu ck op ev lg s1 ds1 p1 q1 s2 ds2 p2 q2 sn hd1 hd2 hr
    obtain ⟨a0, rfl⟩ := Int.eq_ofNat_of_zero_le hB.g0.1
    obtain ⟨a1, rfl⟩ := Int.eq_ofNat_of_zero_le hB.g1.1
    obtain ⟨a2, rfl⟩ := Int.eq_ofNat_of_zero_le hB.g2.1
    obtain ⟨a3, rfl⟩ := Int.eq_ofNat_of_zero_le hB.g3.1
    obtain ⟨a4, rfl⟩ := Int.eq_ofNat_of_zero_le hB.g4.1
    obtain ⟨a5, rfl⟩ := Int.eq_ofNat_of_zero_le hB.g5.1
    obtain ⟨a6, rfl⟩ := Int.eq_ofNat_of_zero_le hB.g6.1
    refine (implFs_true a0 a1 a2 a3 a4 a5 a6 s1 ds1 p1 q1 s2 ds2 p2 q2 sn w hd1 hd2 hsn hB hr hL).mono ?_
    rintro e w' ⟨v', rfl, ho, hb⟩
    refine ⟨v', by unfold codeFs; rw [hr]; rfl, ?_, hb⟩
    unfold encFs
    rw [if_pos hr]
    simp only [Int.toNat_natCast]
    rw [sealed_len _ (by rw [bytesF_len _ _ _ _ _ _ _ _ _ _ _ _ _ _ _ _ hd1 hd2 hsn]; omega)]
    exact ho
end Go.Proofs.YtbnjpnhojimaoaaDoor
