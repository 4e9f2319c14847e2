/- findSnap. Bytes that are a snapshot, read by the program and by the model: the same. -/
import Derived.Test.YtfkmnmopkblopaaGreatDoorZs02
import Derived.Test.YtfkmnmopkblopaaGreatDoorZs29
import Derived.Test.YtfkmnmopkblopaaGreatDoorZs26
namespace Go.Proofs.YtfkmnmopkblopaaGreatDoor
set_option linter.unusedVariables false
set_option linter.unusedSimpArgs false
open Go.RowKit

/-- The snapshot of nothing. -/
def zSn : Array Value := #[.int .i64 0, .string ⟨#[]⟩, .int .i64 0, .int .i64 0, .int .i64 0, .int .i64 0, .int .i64 0, .int .i64 0, .int .i64 0, .int .i64 0, .int .i64 0, .int .i64 0, .int .i64 0, .int .i64 0, .int .i64 0, .int .i64 0, .int .i64 0, .int .i64 0, .int .i64 0]
theorem zSn_no : zSn = noSn := rfl
theorem zSn_is : IsSn zSn ⟨#[]⟩ := ⟨rfl, rfl, by rw [zSn_no]; exact noSn_one⟩

set_option maxRecDepth 100000 in
set_option maxHeartbeats 1000000 in
theorem findSnap_any (v : Value) (L : List (Array Value × ByteArray)) (nm : ByteArray) (w : World) (h : RdSn w v L) :
    Calls Tryz.prog 31 #[v, .string nm] w fun e w' => ∃ c nm', IsSn c nm' ∧ e = .returned (.tuple #[.agg c, .bool (hasN L nm)]) ∧ Below w.heap.size w w' := by
  obtain ⟨a, cap, rfl⟩ : ∃ a cap, v = .slice a L.length cap := by obtain ⟨a, cap, e, _⟩ := h.row; exact ⟨a, cap, e⟩
  have hm : L.length ≤ 9223372036854775807 := by obtain ⟨a, cap, _, _, g1, g2⟩ := h.row; unfold maxLen at g2; omega
  have H := hide h
  clear h
  have K := hide (And.intro ((Blk.new w #[.string nm] 9).alloc (.cells zSn 41)) (And.intro (Blk.new (w.alloc (.cells #[.string nm] 9)) zSn 41) (((Below.refl w.heap.size w).alloc (Nat.le_refl _) (.cells #[.string nm] 9)).alloc (by simp) (.cells zSn 41))))
  go_enter Tryz.func31, Tryz.ntmps31
  go_wp2_with fail
  refine (indexFunc_any _ L nm w.heap.size _ (H.out.below K.out.2.2) (K.out.1.cell 0) K.out.1.lt).mono ?_
  rintro e w1 ⟨hpost, b1⟩
  have K1 := hide (show Blk w1 (w.heap.size + 1) zSn 41 ∧ Below w.heap.size w w1 from by
    have h1 := K.out.2.1
    rw [World.size_alloc] at h1
    exact ⟨h1.below b1 (by simp only [World.size_alloc]; omega), K.out.2.2.trans (b1.mono (by simp only [World.size_alloc]; omega))⟩)
  clear b1
  rcases hpost with ⟨k, rfl, hk, hh⟩ | ⟨rfl, hh⟩
  · obtain ⟨x, hx⟩ : ∃ x, L[k]? = some x := ⟨_, List.getElem?_eq_getElem hk⟩
    obtain ⟨g, off, e0, hg, hrg⟩ := (H.out.below K1.out.2).at hx
    subst e0
    have HS := hide (And.intro (H.out.all x (List.mem_of_getElem? hx)) (And.intro hrg hh))
    clear hrg hx hh
    go_wp2_with (first | (refine wpList_load_mid rfl 41 _ rfl g (off + k * 19) rfl x.1.toList _ HS.out.2.1 Tryz.underlying41 rfl (by rw [Array.length_toList, HS.out.1.size]; exact infoSn) ?_) | (refine wpList_store_row rfl 41 _ _ rfl (w.heap.size + 1) x.1 rfl rfl 41 _ K1.out.1 (by rw [HS.out.1.size]; exact infoSn) (by rw [HS.out.1.size]; rfl) HS.out.1.one ?_))
    refine bodyPost_ret (v := .tuple #[.agg x.1, .bool true]) ?_ rfl ⟨x.1, x.2, HS.out.1, by rw [HS.out.2.2], below_setRow K1.out.2 (by omega) _⟩
    exact results_row_tmp rfl _ _ (w.heap.size + 1) 41 x.1 (0, 0) _ _ rfl rfl (K1.out.1.row _) Tryz.underlying41 rfl (by rw [HS.out.1.size]; exact infoSn)
  · have HH := hide hh
    clear hh
    go_wp2_with (first | (refine wpList_store_row rfl 41 _ _ rfl (w.heap.size + 1) zSn rfl rfl 41 _ K1.out.1 infoSn rfl zSn_is.one ?_))
    refine bodyPost_ret (v := .tuple #[.agg zSn, .bool false]) ?_ rfl ⟨zSn, _, zSn_is, by rw [HH.out], below_setRow K1.out.2 (by omega) _⟩
    exact results_row_tmp rfl _ _ (w.heap.size + 1) 41 zSn (0, 0) _ _ rfl rfl (K1.out.1.row _) Tryz.underlying41 rfl infoSn
end Go.Proofs.YtfkmnmopkblopaaGreatDoor

namespace Go.Proofs.YtfkmnmopkblopaaGreatDoor
set_option linter.unusedVariables false
set_option linter.unusedSimpArgs false
open Go.RowKit

def plS (zs : List Int) : Int := ((unle ((zs.drop 8).take 1) : Nat) : Int)
def nmS (zs : List Int) : ByteArray := strOfNums ((zs.drop 10).take (nlen zs))
/-- The model's reading is right. -/
def rightM (zs : List Int) : Bool := rightS (plS zs) (nmS zs) (mg zs 40 8) (mg zs 48 8) (mS (mR zs 56)) (gwords (mR zs 56) 12) (mP (mR zs 56)) (mQ (mR zs 56))
def snapM (zs : List Int) : Array Value := snapC (plS zs) (nmS zs) (mg zs 40 8) (mg zs 48 8) (mS (mR zs 56)) (gwords (mR zs 56) 12) (mP (mR zs 56)) (mQ (mR zs 56))
def bytesSM (zs : List Int) : List Int := bytesS (plS zs).toNat (nmS zs) (mg zs 40 8).toNat (mg zs 48 8).toNat (mS (mR zs 56)) (gwords (mR zs 56) 12) (mP (mR zs 56)) (mQ (mR zs 56))
def encM (zs : List Int) : List Int := encS (plS zs) (nmS zs) (mg zs 40 8) (mg zs 48 8) (mS (mR zs 56)) (gwords (mR zs 56) 12) (mP (mR zs 56)) (mQ (mR zs 56))
def okSn (zs : List Int) : Bool := decide (zs.length = 512) && (decide (nlen zs ≤ 26) && (rightM zs && decide (encM zs = zs)))
def decSn (zs : List Int) : Array Value := if okSn zs = true then snapM zs else noSn
def codeDS (zs : List Int) : Int := if okSn zs = true then 0 else 21
theorem encM_eq (zs : List Int) (h : rightM zs = true) : encM zs = sealed (bytesSM zs) := by
  unfold rightM at h
  unfold encM encS bytesSM
  rw [if_pos h]
theorem strInts_str : ∀ (xs : List Int), (∀ z ∈ xs, 0 ≤ z ∧ z < 256) → strInts (strOfNums xs) = xs := by
  intro xs h
  unfold strInts
  rw [strOfNums_data]
  induction xs with
  | nil => rfl
  | cons x xs ih =>
    have hx := h x (by simp)
    rw [List.map_cons, List.map_cons, ih (fun z hz => h z (by simp [hz]))]
    congr 1
    simp only [UInt8.toNat_ofNat']
    omega
theorem nlen_lt (zs : List Int) (h : ∀ z ∈ zs, 0 ≤ z ∧ z < 256) : nlen zs < 256 := by
  unfold nlen
  match e : (zs.drop 9).take 1 with
  | [] => decide
  | [x] =>
    have hx := bytes_cut h 9 1 x (by rw [e]; simp)
    simp only [unle]
    omega
  | x :: y :: r =>
    have := congrArg List.length e
    simp at this
    omega
theorem nmS_size (zs : List Int) (h : ∀ z ∈ zs, 0 ≤ z ∧ z < 256) (hz : 300 ≤ zs.length) : (nmS zs).size = nlen zs ∧ strInts (nmS zs) = (zs.drop 10).take (nlen zs) := by
  have e := strInts_str _ (bytes_cut h 10 (nlen zs))
  refine ⟨?_, e⟩
  have hl := nlen_lt zs h
  rw [← strInts_len]
  unfold nmS
  rw [e]
  simp
  omega
theorem rightM_nlen (zs : List Int) (h : ∀ z ∈ zs, 0 ≤ z ∧ z < 256) (hz : 300 ≤ zs.length) (hr : rightM zs = true) : nlen zs ≤ 26 := by
  unfold rightM rightS at hr
  simp only [Bool.and_eq_true] at hr
  have := chk_size hr.1.1.1.2
  rw [(nmS_size zs h hz).1] at this
  exact this.1
/-- What the program reads is what the model reads. -/
theorem snap_agree (zs : List Int) (h : ∀ z ∈ zs, 0 ≤ z ∧ z < 256) (hz : 300 ≤ zs.length) (pl : Int) (nm : ByteArray) (ge cl s : Int) (ds : List Int) (p q : Int) (hd : ds.length = 12) (hr : SnapAt zs pl nm ge cl s ds p q) :
    rightS pl nm ge cl s ds p q = rightM zs ∧
    (rightS pl nm ge cl s ds p q = true → snapC pl nm ge cl s ds p q = snapM zs ∧ le 8 (mg zs 40 8).toNat = (zs.drop 40).take 8 ∧ le 8 (mg zs 48 8).toNat = (zs.drop 48).take 8 ∧ bytesR (mS (mR zs 56)) (gwords (mR zs 56) 12) (mP (mR zs 56)) (mQ (mR zs 56)) = mR zs 56) := by
  obtain ⟨e0, e1, e2, e3, R1⟩ := hr
  have L1 : (mR zs 56).length = 64 := by unfold mR; simp; omega
  have B1 : ∀ z ∈ mR zs 56, 0 ≤ z ∧ z < 256 := bytes_cut h 56 64
  obtain ⟨a1, a2, a3, a4, a5⟩ := root_agree (mR zs 56) s ds p q B1 L1 hd (root_shiftL R1)
  have E2 := eightB _ (unle8_lt zs h 40)
  have E3 := eightB _ (unle8_lt zs h 48)
  rw [← e2] at E2
  rw [← e3] at E3
  change pl = plS zs at e0
  change nm = nmS zs at e1
  subst e0 e1
  unfold rightM snapM
  change rightR s ds p q = rightR (mS (mR zs 56)) ds p q at a4
  change rightR s ds p q = true → s = mS (mR zs 56) ∧ bytesR s ds p q = mR zs 56 at a5
  change p = mP (mR zs 56) at a2
  change q = mQ (mR zs 56) at a3
  rw [← a1, ← a2, ← a3]
  clear a1 a2 a3
  generalize mS (mR zs 56) = y1 at a4 a5 ⊢
  have M2 : mg zs 40 8 = ((gval ((zs.drop 40).take 8) : Nat) : Int) := rfl
  have M3 : mg zs 48 8 = ((gval ((zs.drop 48).take 8) : Nat) : Int) := rfl
  rw [M2, M3]
  rcases E2 with ⟨g2, k2⟩ | g2
  · rcases E3 with ⟨g3, k3⟩ | g3
    · cases c1 : rightR s ds p q with
      | false =>
        rw [c1] at a4
        have hA : rightS (plS zs) (nmS zs) ge cl s ds p q = false := by simp [rightS, c1]
        have hB : rightS (plS zs) (nmS zs) ((gval ((zs.drop 40).take 8) : Nat) : Int) ((gval ((zs.drop 48).take 8) : Nat) : Int) y1 ds p q = false := by simp [rightS, ← a4]
        exact ⟨by rw [hA, hB], fun hh => by rw [hA] at hh; cases hh⟩
      | true =>
        obtain ⟨d1, d2⟩ := a5 c1
        subst d1
        refine ⟨by rw [g2, g3], fun _ => ⟨by rw [g2, g3], ?_, ?_, d2⟩⟩
        · rw [k2, Int.toNat_natCast]; exact le_at h 40 8 (by omega)
        · rw [k3, Int.toNat_natCast]; exact le_at h 48 8 (by omega)
    · have hA : rightS (plS zs) (nmS zs) ge cl s ds p q = false := by simp [rightS, (g3 1 (by omega)).1]
      refine ⟨?_, fun hh => by rw [hA] at hh; cases hh⟩
      rw [hA]
      simp [rightS, (g3 1 (by omega)).2]
  · have hA : rightS (plS zs) (nmS zs) ge cl s ds p q = false := by simp [rightS, (g2 1 (by omega)).1]
    refine ⟨?_, fun hh => by rw [hA] at hh; cases hh⟩
    rw [hA]
    simp [rightS, (g2 1 (by omega)).2]
/-- The model's own reading is one of the program's kind. -/
theorem bytes_modelS (zs : List Int) (h : ∀ z ∈ zs, 0 ≤ z ∧ z < 256) (hz : 300 ≤ zs.length) (hr : rightM zs = true) : le 8 (mg zs 40 8).toNat = (zs.drop 40).take 8 ∧ le 8 (mg zs 48 8).toNat = (zs.drop 48).take 8 ∧ bytesR (mS (mR zs 56)) (gwords (mR zs 56) 12) (mP (mR zs 56)) (mQ (mR zs 56)) = mR zs 56 := by
  have hR : RootAt zs 56 (wrap64 ((unle ((zs.drop 56).take 8) : Nat) : Int)) (wordsFrom zs (56 + 8) 12) ((unle ((zs.drop (56 + 8 + 4 * 12)).take 4) : Nat) : Int) ((unle ((zs.drop (56 + 8 + 4 * 13)).take 4) : Nat) : Int) := ⟨rfl, by
    have e1 : wordsFrom zs (56 + 8) 13 = wordsFrom zs (56 + 8) 12 ++ [((unle ((zs.drop (56 + 8 + 4 * 12)).take 4) : Nat) : Int)] := wordsFrom_succ zs (56 + 8) 12
    have e2 : wordsFrom zs (56 + 8) 14 = wordsFrom zs (56 + 8) 13 ++ [((unle ((zs.drop (56 + 8 + 4 * 13)).take 4) : Nat) : Int)] := wordsFrom_succ zs (56 + 8) 13
    rw [e2, e1, List.append_assoc]
    rfl⟩
  obtain ⟨e1, e2⟩ := snap_agree zs h hz (plS zs) (nmS zs) _ _ _ _ _ _ (wordsFrom_len _ _ _) ⟨rfl, rfl, rfl, rfl, hR⟩
  exact (e2 (by rw [e1]; exact hr)).2
theorem snapLet_bd : ∀ z ∈ snapLet, 0 ≤ z ∧ z < 256 := by decide
/-- The bytes that the model lays down again, beside those that it read. -/
theorem bytesSM_parts (zs : List Int) (h : ∀ z ∈ zs, 0 ≤ z ∧ z < 256) (hz : 300 ≤ zs.length) (hr : rightM zs = true) :
    bytesSM zs = snapLet ++ ((zs.drop 8).take 1 ++ ((zs.drop 9).take 1 ++ ((zs.drop 10).take (nlen zs) ++ (List.replicate (30 - nlen zs) 0 ++ ((zs.drop 40).take 8 ++ ((zs.drop 48).take 8 ++ (zs.drop 56).take 64)))))) := by
  obtain ⟨b1, b2, b3⟩ := bytes_modelS zs h hz hr
  obtain ⟨n1, n2⟩ := nmS_size zs h hz
  have hp : le 1 (plS zs).toNat = (zs.drop 8).take 1 := by
    unfold plS
    rw [Int.toNat_natCast]
    exact le_at h 8 1 (by omega)
  have hn : le 1 (nlen zs) = (zs.drop 9).take 1 := le_at h 9 1 (by omega)
  unfold bytesSM bytesS
  rw [b1, b2, b3, n1, n2, hp, hn, show 40 - (10 + nlen zs) = 30 - nlen zs by omega]
  unfold mR
  simp only [List.append_assoc]
theorem bytes_parts (zs : List Int) (n : Nat) (hn : n ≤ 30) : (zs.drop 8).take 112 = (zs.drop 8).take 1 ++ ((zs.drop 9).take 1 ++ ((zs.drop 10).take n ++ ((zs.drop (10 + n)).take (30 - n) ++ ((zs.drop 40).take 8 ++ ((zs.drop 48).take 8 ++ (zs.drop 56).take 64))))) := by
  have e : (112 : Nat) = 1 + (1 + (n + ((30 - n) + (8 + (8 + 64))))) := by omega
  rw [e, cut_take zs 8 1, cut_take zs (8 + 1) 1, cut_take zs (8 + 1 + 1) n, cut_take zs (8 + 1 + 1 + n) (30 - n), cut_take zs (8 + 1 + 1 + n + (30 - n)) 8, cut_take zs (8 + 1 + 1 + n + (30 - n) + 8) 8]
  rw [show 8 + 1 + 1 + n + (30 - n) = 40 by omega]
theorem gap_take (zs : List Int) (hz : zs.length = 512) : nlen (zs.take 508) = nlen zs ∧ gapN (zs.take 508) = gapN zs := by
  have e1 : nlen (zs.take 508) = nlen zs := by
    unfold nlen
    rw [List.drop_take, List.take_take, Nat.min_eq_left (by omega)]
  refine ⟨e1, ?_⟩
  unfold gapN
  rw [e1]
  by_cases hn : nlen zs ≤ 30
  · rw [List.drop_take, List.take_take, Nat.min_eq_left (by omega)]
  · rw [decide_eq_false hn, Bool.false_and, Bool.false_and]
theorem frame_iffS (zs : List Int) (h : ∀ z ∈ zs, 0 ≤ z ∧ z < 256) (hz : zs.length = 512) (hr : rightM zs = true) : sealed (bytesSM zs) = zs ↔ frameS zs = true := by
  have hn := rightM_nlen zs h (by omega) hr
  have hB := bytesSM_parts zs h (by omega) hr
  have hg : gapN (zs.take 508) = allz ((zs.drop (10 + nlen zs)).take (30 - nlen zs)) := by
    rw [(gap_take zs hz).2]
    unfold gapN
    rw [decide_eq_true (show nlen zs ≤ 30 by omega), Bool.true_and]
  have hgl : ((zs.drop (10 + nlen zs)).take (30 - nlen zs)).length = 30 - nlen zs := by simp; omega
  cases ha : allz ((zs.drop (10 + nlen zs)).take (30 - nlen zs)) with
  | true =>
    have hrep := allz_rep _ ha
    rw [hgl] at hrep
    have hB2 : bytesSM zs = snapLet ++ (zs.drop 8).take 112 := by
      rw [hB, bytes_parts zs (nlen zs) (by omega), hrep]
    rw [hB2, sealed_iff zs snapLet 112 h hz rfl snapLet_bd (by omega)]
    unfold frameS sumB
    rw [hg, ha]
    simp only [Bool.and_eq_true, decide_eq_true_eq, and_true]
    constructor
    · rintro ⟨a, b, c⟩; exact ⟨⟨c, a⟩, b⟩
    · rintro ⟨⟨c, a⟩, b⟩; exact ⟨a, b, c⟩
  | false =>
    constructor
    · intro e
      exfalso
      unfold sealed pad at e
      rw [hB] at e
      have e2 := congrArg (fun l => (l.drop (10 + nlen zs)).take (30 - nlen zs)) e
      change List.take (30 - nlen zs) (List.drop (10 + nlen zs) _) = _ at e2
      have hl : (snapLet ++ ((zs.drop 8).take 1 ++ ((zs.drop 9).take 1 ++ (zs.drop 10).take (nlen zs)))).length = 10 + nlen zs := by simp [snapLet]; omega
      have e3 : allz ((zs.drop (10 + nlen zs)).take (30 - nlen zs)) = true := by
        rw [← e2]
        have hh : ∀ (X Y : List Int), ((snapLet ++ ((zs.drop 8).take 1 ++ ((zs.drop 9).take 1 ++ ((zs.drop 10).take (nlen zs) ++ (List.replicate (30 - nlen zs) 0 ++ X))))) ++ Y) = (snapLet ++ ((zs.drop 8).take 1 ++ ((zs.drop 9).take 1 ++ (zs.drop 10).take (nlen zs)))) ++ (List.replicate (30 - nlen zs) 0 ++ (X ++ Y)) := fun X Y => by simp only [List.append_assoc]
        rw [List.append_assoc, hh, List.drop_left' hl, List.take_left' (by simp)]
        exact allz_of_rep _
      rw [ha] at e3
      cases e3
    · intro hf
      unfold frameS at hf
      rw [hg, ha] at hf
      simp at hf
theorem at508S {zs : List Int} {pl : Int} {nm : ByteArray} {ge cl s : Int} {ds : List Int} {p q : Int} (hb : ∀ z ∈ zs, 0 ≤ z ∧ z < 256) (hz : zs.length = 512) (h : SnapAt (zs.take 508) pl nm ge cl s ds p q) : SnapAt zs pl nm ge cl s ds p q := by
  obtain ⟨h0, h1, h2, h3, ⟨h7, h8⟩⟩ := h
  have hn := nlen_lt zs hb
  have e : ∀ lo n, lo + n ≤ 508 → ((zs.take 508).drop lo).take n = (zs.drop lo).take n := fun lo n hn => by rw [List.drop_take, List.take_take, Nat.min_eq_left (by omega)]
  have ew : ∀ p n, p + 4 * n ≤ 508 → wordsFrom (zs.take 508) p n = wordsFrom zs p n := fun p n hn => by
    have := wordsFrom_shift zs 0 508 p n hn
    rw [List.drop_zero, Nat.zero_add] at this
    exact this
  rw [e 8 1 (by omega)] at h0
  rw [(gap_take zs hz).1, e 10 _ (by omega)] at h1
  rw [e 40 8 (by omega)] at h2
  rw [e 48 8 (by omega)] at h3
  rw [e 56 8 (by omega)] at h7
  rw [ew _ 14 (by omega)] at h8
  exact ⟨h0, h1, h2, h3, ⟨h7, h8⟩⟩
theorem read_sameS (zs : List Int) (C : Array Value) (ok : Bool) (h : ∀ z ∈ zs, 0 ≤ z ∧ z < 256) (hR : SnapRead zs C ok) : (if ok = true then C else noSn) = decSn zs ∧ (if ok = true then (0 : Int) else 21) = codeDS zs := by
  obtain ⟨pl, nm, ge, cl, s, ds, p, q, hd, hnm, rfl, h1, h2, h3⟩ := hR
  by_cases hz : zs.length = 512
  · cases hf : frameS zs with
    | true =>
      obtain ⟨hat, hok⟩ := h3 hz hf
      obtain ⟨e1, e2⟩ := snap_agree zs h (by omega) pl nm ge cl s ds p q hd (at508S h hz hat)
      have e3 : okSn zs = ok := by
        unfold okSn
        rw [decide_eq_true hz, Bool.true_and, hok, e1]
        cases hr : rightM zs with
        | false => rw [Bool.false_and, Bool.and_false]
        | true =>
          rw [Bool.true_and, decide_eq_true (rightM_nlen zs h (by omega) hr), Bool.true_and, decide_eq_true_eq, encM_eq zs hr]
          exact (frame_iffS zs h hz hr).2 hf
      unfold decSn codeDS
      rw [e3]
      refine ⟨?_, rfl⟩
      cases hk : ok with
      | false => rfl
      | true => exact (e2 (by rw [← hok]; exact hk)).1
    | false =>
      have hk := h2 hz hf
      have e3 : okSn zs = false := by
        unfold okSn
        rw [decide_eq_true hz, Bool.true_and]
        cases hr : rightM zs with
        | false => rw [Bool.false_and, Bool.and_false]
        | true =>
          have : decide (encM zs = zs) = false := by
            rw [decide_eq_false_iff_not, encM_eq zs hr]
            intro he
            have := (frame_iffS zs h hz hr).1 he
            rw [hf] at this
            cases this
          rw [this, Bool.and_false, Bool.and_false]
      unfold decSn codeDS
      rw [e3, hk]
      exact ⟨rfl, rfl⟩
  · have hk := h1 hz
    have e3 : okSn zs = false := by unfold okSn; rw [decide_eq_false hz]; rfl
    unfold decSn codeDS
    rw [e3, hk]
    exact ⟨rfl, rfl⟩
theorem implDS_same (v : Value) (zs : List Int) (w : World) (h : Rd .u8 w v zs) (hbd : ∀ z ∈ zs, 0 ≤ z ∧ z < 256) (hz : zs.length ≤ 1048576) (hg : ErrT w) (hL : LetS w) :
    Calls Tryz.prog 30 #[v] w fun e w' => e = .returned (.tuple #[.agg (decSn zs), .int .i64 (codeDS zs)]) ∧ Below w.heap.size w w' := by
  refine (implDS_any v zs w h hbd hz hg hL).mono ?_
  rintro e w' ⟨X, ok, hR, rfl, hb⟩
  obtain ⟨e1, e2⟩ := read_sameS zs X ok hbd hR
  rw [e1, e2]
  exact ⟨rfl, hb⟩
theorem decSn_sn (zs : List Int) (h : ∀ z ∈ zs, 0 ≤ z ∧ z < 256) : ∃ pl nm ge cl s ds p q, ds.length = 12 ∧ nm.size ≤ 255 ∧ decSn zs = snapC pl nm ge cl s ds p q := by
  unfold decSn
  by_cases ho : okSn zs = true
  · rw [if_pos ho]
    unfold okSn at ho
    simp only [Bool.and_eq_true, decide_eq_true_eq] at ho
    exact ⟨_, _, _, _, _, _, _, _, gwords_len _ _, by rw [(nmS_size zs h (by omega)).1]; omega, rfl⟩
  · rw [if_neg ho]
    exact ⟨0, ⟨#[]⟩, 0, 0, 0, List.replicate 12 0, 0, 0, rfl, by decide, rfl⟩
end Go.Proofs.YtfkmnmopkblopaaGreatDoor
