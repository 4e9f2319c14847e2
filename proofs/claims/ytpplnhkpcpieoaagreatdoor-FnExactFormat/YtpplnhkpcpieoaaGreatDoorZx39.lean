/- The model's bytes of an inode: l02InodeBytes -/
import Derived.Test.YtpplnhkpcpieoaaGreatDoorZx38
namespace Go.Proofs.YtpplnhkpcpieoaaGreatDoor
open Go.Proofs.Tryz
open _root_.List (replicate flatten_cons flatten_nil length_append range range_succ map_append flatten_append length_map getElem?_map getD)
set_option linter.all false
set_option maxRecDepth 100000
set_option maxHeartbeats 16000000
section
open Go.RowKit
theorem put_eq(x y:Value)(v n:Nat)(w:World)(hx:x=.int .i64 (v:Int))(hy:y=.int .i64 (n:Int))(hv:v<281474976710656)(hn:n≤8)(h0:0<n):
 Calls prog 40 #[x,y] w fun e w'=>∃g cp,e=.returned (.slice (some ⟨g,0,none⟩) n cp)∧w'.ownsRow w.heap.size 5 1 (.slice (some ⟨g,0,none⟩) n cp) n ((le n v).map (Value.int .u8))∧Below w.heap.size w w':=by
 subst hx hy;exact jl v n w hv hn h0
theorem jO{w0 w w':World}(h:Below w0.heap.size w0 w)(h2:Below w.heap.size w w'):Below w0.heap.size w0 w':=h.trans (h2.mono h.size)
theorem Kz{w0 w:World}(h:Below w0.heap.size w0 w)(o:Obj):Below w0.heap.size w0 (w.alloc o):=h.alloc h.size o
theorem KA{B:Nat}{w0 w:World}(h:Below B w0 w):Below B w0 w.drew:=h.drew
theorem vL(s:Int)(ds:List Int)(p q:Int)(w:World)(hd:ds.length=12)(hs:0≤s∧s≤262144)(hp:∀z∈ds++[p,q],0≤z∧z<2048):
 Calls prog 43 #[.agg (an (aD s ds p q))] w fun e w'=>∃g cp,e=.returned (.slice (some ⟨g,0,none⟩) 64 cp)∧w'.ownsRow w.heap.size 5 1 (.slice (some ⟨g,0,none⟩) 64 cp) 64 ((dH s ds p q).map (Value.int .u8))∧Below w.heap.size w w':=by
 refine(Ew s ds p q w hd hs hp).mono ?_;rintro e w' ⟨v',rfl,ho,hb⟩;rcases ho.2 with⟨rfl,hn0⟩|⟨g,cap,cur,rfl,_⟩
 ·omega
 ·exact⟨g,cap,rfl,ho,hb⟩
theorem KD(n:Nat)(h:n<256):le 2 n=le 1 n++replicate 1 0:=by
 have h1:n/256%256=0:=by omega
 simp[le,h1]
theorem KH(a0 a1 a2 a3 a4 a5 a6 a7 a8:Nat)(s:Int)(ds:List Int)(p q:Int)(hd:ds.length=12)(h0:a0<256):
 (([le 2 a0,le 2 a1,le 2 a2,le 2 a3,le 2 a4,le 2 0,le 4 a5,le 8 a6,le 8 a7,le 8 a8,dH s ds p q]:List (List Int)).flatten++replicate (128-([le 2 a0,le 2 a1,le 2 a2,le 2 a3,le 2 a4,le 2 0,le 4 a5,le 8 a6,le 8 a7,le 8 a8,dH s ds p q]:List (List Int)).flatten.length) 0)=lC a0 a1 a2 a3 a4 a5 a6 a7 a8 s ds p q:=by
 have hl:([le 2 a0,le 2 a1,le 2 a2,le 2 a3,le 2 a4,le 2 0,le 4 a5,le 8 a6,le 8 a7,le 8 a8,dH s ds p q]:List (List Int)).flatten.length=104:=by
  simp only[flatten_cons,flatten_nil,length_append,fR,mu s ds p q hd,List.length_nil]
 rw[hl];unfold lC;rw[KD a0 h0,show le 2 0=replicate 2 0 from rfl];simp only[flatten_cons,flatten_nil,List.append_nil,List.append_assoc]
theorem vM(a0 a1 a2 a3 a4 a5 a6 a7 a8:Nat)(s:Int)(ds:List Int)(p q:Int)(hd:ds.length=12):([le 2 a0,le 2 a1,le 2 a2,le 2 a3,le 2 a4,le 2 0,le 4 a5,le 8 a6,le 8 a7,le 8 a8,dH s ds p q]:List (List Int)).flatten.length=104:=by
 simp only[flatten_cons,flatten_nil,length_append,fR,mu s ds p q hd,List.length_nil]
theorem KI(a0 a1 a2 a3 a4 a5 a6 a7 a8:Nat)(s:Int)(ds:List Int)(p q:Int)(hd:ds.length=12):∀b∈([le 2 a0,le 2 a1,le 2 a2,le 2 a3,le 2 a4,le 2 0,le 4 a5,le 8 a6,le 8 a7,le 8 a8,dH s ds p q]:List (List Int)),0<b.length:=by
 intro b hb;simp only[List.mem_cons,List.not_mem_nil,or_false] at hb;rcases hb with rfl|rfl|rfl|rfl|rfl|rfl|rfl|rfl|rfl|rfl|rfl;all_goals first|(rw[fR];omega)|(rw[mu s ds p q hd];omega)
theorem KJ(a0 a1 a2 a3 a4 a5 a6 a7 a8:Nat)(s d0 d1 d2 d3 d4 d5 d6 d7 d8 d9 d10 d11 p q:Int)(w:World)(h0:a0<256)(h1:a1<65536)(h2:a2<65536)(h3:a3<65536)(h4:a4<65536)(h5:a5<4294967296)(h6:a6<281474976710656)(h7:a7<281474976710656)(h8:a8<281474976710656)(hs:0≤s∧s≤262144)(hp:∀z∈[d0,d1,d2,d3,d4,d5,d6,d7,d8,d9,d10,d11]++[p,q],0≤z∧z<2048):
 Calls prog 27 #[.agg (an (dI [(a0:Int),(a1:Int),(a2:Int),(a3:Int),(a4:Int),(a5:Int),(a6:Int),(a7:Int),(a8:Int)] s [d0,d1,d2,d3,d4,d5,d6,d7,d8,d9,d10,d11] p q))] w fun e w'=>∃v',e=.returned v'∧w'.ownsRow w.heap.size 5 1 v' 128 ((lC a0 a1 a2 a3 a4 a5 a6 a7 a8 s [d0,d1,d2,d3,d4,d5,d6,d7,d8,d9,d10,d11] p q).map (Value.int .u8))∧Below w.heap.size w w':=by
 have Rk:=aa (ai hs hp);obtain⟨W,hW⟩:∃W,W=w.alloc (.cells (an (dI [(a0:Int),(a1:Int),(a2:Int),(a3:Int),(a4:Int),(a5:Int),(a6:Int),(a7:Int),(a8:Int)] s [d0,d1,d2,d3,d4,d5,d6,d7,d8,d9,d10,d11] p q)) 33):=⟨_,rfl⟩;have K0:=ae (af W w.heap.size (an (dI [(a0:Int),(a1:Int),(a2:Int),(a3:Int),(a4:Int),(a5:Int),(a6:Int),(a7:Int),(a8:Int)] s [d0,d1,d2,d3,d4,d5,d6,d7,d8,d9,d10,d11] p q)) 33∧Below w.heap.size w W) (by rw[hW];exact⟨af.new w _ _,ak.alloc aj _⟩);have S0:Below W.heap.size W W:=ak;have c0:∀w',Below W.heap.size W w'→w'.cell? ⟨w.heap.size,0,none⟩=some (.int .i64 (a0:Int)):=fun w' h=>(h.cell (p:=⟨w.heap.size,0,none⟩) K0.out.1.lt).trans ((K0.out.1.cell 0).trans rfl);have c1:∀w',Below W.heap.size W w'→w'.cell? ⟨w.heap.size,1,none⟩=some (.int .i64 (a1:Int)):=fun w' h=>(h.cell (p:=⟨w.heap.size,1,none⟩) K0.out.1.lt).trans ((K0.out.1.cell 1).trans rfl);have c2:∀w',Below W.heap.size W w'→w'.cell? ⟨w.heap.size,2,none⟩=some (.int .i64 (a2:Int)):=fun w' h=>(h.cell (p:=⟨w.heap.size,2,none⟩) K0.out.1.lt).trans ((K0.out.1.cell 2).trans rfl);have c3:∀w',Below W.heap.size W w'→w'.cell? ⟨w.heap.size,3,none⟩=some (.int .i64 (a3:Int)):=fun w' h=>(h.cell (p:=⟨w.heap.size,3,none⟩) K0.out.1.lt).trans ((K0.out.1.cell 3).trans rfl);have c4:∀w',Below W.heap.size W w'→w'.cell? ⟨w.heap.size,4,none⟩=some (.int .i64 (a4:Int)):=fun w' h=>(h.cell (p:=⟨w.heap.size,4,none⟩) K0.out.1.lt).trans ((K0.out.1.cell 4).trans rfl);have c5:∀w',Below W.heap.size W w'→w'.cell? ⟨w.heap.size,5,none⟩=some (.int .i64 (a5:Int)):=fun w' h=>(h.cell (p:=⟨w.heap.size,5,none⟩) K0.out.1.lt).trans ((K0.out.1.cell 5).trans rfl);have c6:∀w',Below W.heap.size W w'→w'.cell? ⟨w.heap.size,6,none⟩=some (.int .i64 (a6:Int)):=fun w' h=>(h.cell (p:=⟨w.heap.size,6,none⟩) K0.out.1.lt).trans ((K0.out.1.cell 6).trans rfl);have c7:∀w',Below W.heap.size W w'→w'.cell? ⟨w.heap.size,7,none⟩=some (.int .i64 (a7:Int)):=fun w' h=>(h.cell (p:=⟨w.heap.size,7,none⟩) K0.out.1.lt).trans ((K0.out.1.cell 7).trans rfl);have c8:∀w',Below W.heap.size W w'→w'.cell? ⟨w.heap.size,8,none⟩=some (.int .i64 (a8:Int)):=fun w' h=>(h.cell (p:=⟨w.heap.size,8,none⟩) K0.out.1.lt).trans ((K0.out.1.cell 8).trans rfl);have c9:∀w',Below W.heap.size W w'→w'.cell? ⟨w.heap.size,9,none⟩=some (.int .i64 s):=fun w' h=>(h.cell (p:=⟨w.heap.size,9,none⟩) K0.out.1.lt).trans ((K0.out.1.cell 9).trans rfl);have c10:∀w',Below W.heap.size W w'→w'.cell? ⟨w.heap.size,10,none⟩=some (.int .i64 d0):=fun w' h=>(h.cell (p:=⟨w.heap.size,10,none⟩) K0.out.1.lt).trans ((K0.out.1.cell 10).trans rfl);have c11:∀w',Below W.heap.size W w'→w'.cell? ⟨w.heap.size,11,none⟩=some (.int .i64 d1):=fun w' h=>(h.cell (p:=⟨w.heap.size,11,none⟩) K0.out.1.lt).trans ((K0.out.1.cell 11).trans rfl);have c12:∀w',Below W.heap.size W w'→w'.cell? ⟨w.heap.size,12,none⟩=some (.int .i64 d2):=fun w' h=>(h.cell (p:=⟨w.heap.size,12,none⟩) K0.out.1.lt).trans ((K0.out.1.cell 12).trans rfl);have c13:∀w',Below W.heap.size W w'→w'.cell? ⟨w.heap.size,13,none⟩=some (.int .i64 d3):=fun w' h=>(h.cell (p:=⟨w.heap.size,13,none⟩) K0.out.1.lt).trans ((K0.out.1.cell 13).trans rfl);have c14:∀w',Below W.heap.size W w'→w'.cell? ⟨w.heap.size,14,none⟩=some (.int .i64 d4):=fun w' h=>(h.cell (p:=⟨w.heap.size,14,none⟩) K0.out.1.lt).trans ((K0.out.1.cell 14).trans rfl);have c15:∀w',Below W.heap.size W w'→w'.cell? ⟨w.heap.size,15,none⟩=some (.int .i64 d5):=fun w' h=>(h.cell (p:=⟨w.heap.size,15,none⟩) K0.out.1.lt).trans ((K0.out.1.cell 15).trans rfl);have c16:∀w',Below W.heap.size W w'→w'.cell? ⟨w.heap.size,16,none⟩=some (.int .i64 d6):=fun w' h=>(h.cell (p:=⟨w.heap.size,16,none⟩) K0.out.1.lt).trans ((K0.out.1.cell 16).trans rfl);have c17:∀w',Below W.heap.size W w'→w'.cell? ⟨w.heap.size,17,none⟩=some (.int .i64 d7):=fun w' h=>(h.cell (p:=⟨w.heap.size,17,none⟩) K0.out.1.lt).trans ((K0.out.1.cell 17).trans rfl);have c18:∀w',Below W.heap.size W w'→w'.cell? ⟨w.heap.size,18,none⟩=some (.int .i64 d8):=fun w' h=>(h.cell (p:=⟨w.heap.size,18,none⟩) K0.out.1.lt).trans ((K0.out.1.cell 18).trans rfl);have c19:∀w',Below W.heap.size W w'→w'.cell? ⟨w.heap.size,19,none⟩=some (.int .i64 d9):=fun w' h=>(h.cell (p:=⟨w.heap.size,19,none⟩) K0.out.1.lt).trans ((K0.out.1.cell 19).trans rfl);have c20:∀w',Below W.heap.size W w'→w'.cell? ⟨w.heap.size,20,none⟩=some (.int .i64 d10):=fun w' h=>(h.cell (p:=⟨w.heap.size,20,none⟩) K0.out.1.lt).trans ((K0.out.1.cell 20).trans rfl);have c21:∀w',Below W.heap.size W w'→w'.cell? ⟨w.heap.size,21,none⟩=some (.int .i64 d11):=fun w' h=>(h.cell (p:=⟨w.heap.size,21,none⟩) K0.out.1.lt).trans ((K0.out.1.cell 21).trans rfl);have Wn:∀w',Below W.heap.size W w'→w'.cell? ⟨w.heap.size,22,none⟩=some (.int .i64 p):=fun w' h=>(h.cell (p:=⟨w.heap.size,22,none⟩) K0.out.1.lt).trans ((K0.out.1.cell 22).trans rfl);have c23:∀w',Below W.heap.size W w'→w'.cell? ⟨w.heap.size,23,none⟩=some (.int .i64 q):=fun w' h=>(h.cell (p:=⟨w.heap.size,23,none⟩) K0.out.1.lt).trans ((K0.out.1.cell 23).trans rfl);have HW:=aa hW;clear hs hp hW;go_enter func27,ntmps27;go_wp2;rw[←HW.out];go_region_held3 (fun w'=>Below W.heap.size W w') (first|assumption|exact KA (by assumption)|exact Kz (by assumption) _) (first
  |(go_at_call 40;refine(put_eq _ _ a0 2 _ (by with_reducible rfl) (by rfl) (by omega) (by omega) (by omega)).mono ?_;rintro e w0 ⟨g0,cp0,rfl,o0,b0⟩;have S1:=jO (w0:=W) (by assumption) b0;have R0:=aa (dB.next (show dB _ [] [] from trivial) o0 b0);clear o0 b0)
  |(go_at_call 40;refine(put_eq _ _ a1 2 _ (by with_reducible rfl) (by rfl) (by omega) (by omega) (by omega)).mono ?_;rintro e w1 ⟨g1,X9,rfl,o1,b1⟩;have S2:=jO (w0:=W) (by assumption) b1;have R1:=aa (dB.next R0.out o1 b1);clear o1 b1)
  |(go_at_call 40;refine(put_eq _ _ a2 2 _ (by with_reducible rfl) (by rfl) (by omega) (by omega) (by omega)).mono ?_;rintro e w2 ⟨g2,cp2,rfl,o2,b2⟩;have S3:=jO (w0:=W) (by assumption) b2;have R2:=aa (dB.next R1.out o2 b2);clear o2 b2)
  |(go_at_call 40;refine(put_eq _ _ a3 2 _ (by with_reducible rfl) (by rfl) (by omega) (by omega) (by omega)).mono ?_;rintro e w3 ⟨g3,SW,rfl,o3,b3⟩;have S4:=jO (w0:=W) (by assumption) b3;have R3:=aa (dB.next R2.out o3 b3);clear o3 b3)
  |(go_at_call 40;refine(put_eq _ _ a4 2 _ (by with_reducible rfl) (by rfl) (by omega) (by omega) (by omega)).mono ?_;rintro e w4 ⟨g4,cp4,rfl,o4,b4⟩;have S5:=jO (w0:=W) (by assumption) b4;have R4:=aa (dB.next R3.out o4 b4);clear o4 b4)
  |(go_at_call 40;refine(put_eq _ _ 0 2 _ (by rfl) (by rfl) (by omega) (by omega) (by omega)).mono ?_;rintro e w5 ⟨g5,cp5,rfl,o5,b5⟩;have S6:=jO (w0:=W) (by assumption) b5;have R5:=aa (dB.next R4.out o5 b5);clear o5 b5)
  |(go_at_call 40;refine(put_eq _ _ a5 4 _ (by with_reducible rfl) (by rfl) (by omega) (by omega) (by omega)).mono ?_;rintro e w6 ⟨g6,cp6,rfl,o6,b6⟩;have S7:=jO (w0:=W) (by assumption) b6;have R6:=aa (dB.next R5.out o6 b6);clear o6 b6)
  |(go_at_call 40;refine(put_eq _ _ a6 8 _ (by with_reducible rfl) (by rfl) (by omega) (by omega) (by omega)).mono ?_;rintro e w7 ⟨g7,cp7,rfl,o7,b7⟩;have S8:=jO (w0:=W) (by assumption) b7;have R7:=aa (dB.next R6.out o7 b7);clear o7 b7)
  |(go_at_call 40;refine(put_eq _ _ a7 8 _ (by with_reducible rfl) (by rfl) (by omega) (by omega) (by omega)).mono ?_;rintro e w8 ⟨g8,cp8,rfl,o8,b8⟩;have S9:=jO (w0:=W) (by assumption) b8;have R8:=aa (dB.next R7.out o8 b8);clear o8 b8)
  |(go_at_call 40;refine(put_eq _ _ a8 8 _ (by with_reducible rfl) (by rfl) (by omega) (by omega) (by omega)).mono ?_;rintro e w9 ⟨g9,cp9,rfl,o9,b9⟩;have S10:=jO (w0:=W) (by assumption) b9;have R9:=aa (dB.next R8.out o9 b9);clear o9 b9)
  |(go_at_call 43;refine(vL s [d0,d1,d2,d3,d4,d5,d6,d7,d8,d9,d10,d11] p q _ rfl Rk.out.1 Rk.out.2).mono ?_;rintro e je ⟨g10,cp10,rfl,OF,b10⟩;have S11:=jO (w0:=W) (by assumption) b10;have UI:=aa (dB.next R9.out OF b10);clear OF b10)
  |(go_at_call 42;refine(xL je.heap.size 11 11 [.slice (some ⟨g0,0,none⟩) 2 cp0,.slice (some ⟨g1,0,none⟩) 2 X9,.slice (some ⟨g2,0,none⟩) 2 cp2,.slice (some ⟨g3,0,none⟩) 2 SW,.slice (some ⟨g4,0,none⟩) 2 cp4,.slice (some ⟨g5,0,none⟩) 2 cp5,.slice (some ⟨g6,0,none⟩) 4 cp6,.slice (some ⟨g7,0,none⟩) 8 cp7,.slice (some ⟨g8,0,none⟩) 8 cp8,.slice (some ⟨g9,0,none⟩) 8 cp9,.slice (some ⟨g10,0,none⟩) 64 cp10] [le 2 a0,le 2 a1,le 2 a2,le 2 a3,le 2 a4,le 2 0,le 4 a5,le 8 a6,le 8 a7,le 8 a8,dH s [d0,d1,d2,d3,d4,d5,d6,d7,d8,d9,d10,d11] p q] _ (fun j v h=>by rw[cell_of_row _ _ j _ _ _ (heap_alloc_new je _),List.getElem?_toArray];exact h) (dB.below (ak.alloc aj _) UI.out) rfl (by omega) (KI a0 a1 a2 a3 a4 a5 a6 a7 a8 s [d0,d1,d2,d3,d4,d5,d6,d7,d8,d9,d10,d11] p q rfl) (by rw[vM a0 a1 a2 a3 a4 a5 a6 a7 a8 s [d0,d1,d2,d3,d4,d5,d6,d7,d8,d9,d10,d11] p q rfl];omega) (by simp)).mono ?_;rintro e nx ⟨v12,rfl,N8,b12⟩;have S12:=jO (w0:=W) (by assumption) b12;have R12:=aa (Rd.own N8);clear N8 b12))
 have Pp:=aa (K0.out.2.trans (S12.mono K0.out.2.size));clear c0 c1 c2 c3 c4 c5 c6 c7 c8 c9 c10 c11 c12 c13 c14 c15 c16 c17 c18 c19 c20 c21 Wn c23 S0 S1 S2 S3 S4 S5 S6 S7 S8 S9 S10 S11 S12;go_wp2_with fail;refine(tH v12 _ 128 _ R12.out (by rw[vM a0 a1 a2 a3 a4 a5 a6 a7 a8 s [d0,d1,d2,d3,d4,d5,d6,d7,d8,d9,d10,d11] p q rfl];omega) (by rw[vM a0 a1 a2 a3 a4 a5 a6 a7 a8 s [d0,d1,d2,d3,d4,d5,d6,d7,d8,d9,d10,d11] p q rfl];omega) (by omega)).mono ?_;rintro e OI ⟨v13,rfl,UC,b13⟩;rw[KH a0 a1 a2 a3 a4 a5 a6 a7 a8 s [d0,d1,d2,d3,d4,d5,d6,d7,d8,d9,d10,d11] p q rfl h0] at UC;have Rl:=aa (ai (cH UC Pp.out.size) (Pp.out.trans (b13.mono Pp.out.size)));clear UC b13;go_wp2;go_ret;exact⟨_,rfl,Rl.out.1,Rl.out.2⟩
theorem KK{k0 k1 k2 k3 k4 k5 k6 k7 k8 s:Int}{ds:List Int}{p q:Int}(hd:ds.length=12)(h:nB k0 k1 k2 k3 k4 k5 k6 k7 k8 s ds p q=true):
 (0≤k0∧k0<256)∧(0≤k1∧k1<65536)∧(0≤k2∧k2<65536)∧(0≤k3∧k3<65536)∧(0≤k4∧k4<65536)∧(0≤k5∧k5<4294967296)∧(0≤k6∧k6<281474976710656)∧(0≤k7∧k7<281474976710656)∧(0≤k8∧k8<281474976710656)∧(0≤s∧s≤262144)∧∀z∈ds++[p,q],0≤z∧z<2048:=by
 unfold nB at h;rw[Bool.or_eq_true] at h;rcases h with h|h
 ·rw[yO] at h;have hz:∀x∈dI [k0,k1,k2,k3,k4,k5,k6,k7,k8] s ds p q,x=0:=h;have e0:=hz k0 (by simp[dI]);have e1:=hz k1 (by simp[dI]);have e2:=hz k2 (by simp[dI]);have e3:=hz k3 (by simp[dI]);have e4:=hz k4 (by simp[dI]);have e5:=hz k5 (by simp[dI]);have e6:=hz k6 (by simp[dI]);have e7:=hz k7 (by simp[dI]);have e8:=hz k8 (by simp[dI]);have es:=hz s (by simp[dI,aD]);refine⟨by omega,by omega,by omega,by omega,by omega,by omega,by omega,by omega,by omega,by omega,fun z hm=>?_⟩;have ez:=hz z (by unfold dI aD;exact List.mem_append_right _ (List.mem_cons_of_mem _ hm));omega
 ·rw[Bool.and_eq_true] at h;have hb:=tG hd h.2;have hf:=h.1;unfold AH at hf;simp only[Bool.and_eq_true] at hf;obtain⟨⟨⟨⟨⟨⟨⟨⟨f0,f1⟩,f2⟩,f3⟩,f4⟩,f5⟩,f6⟩,f7⟩,f8⟩:=hf;have g0:=gQ f0;have g1:=gQ f1;have g2:=gQ f2;have g3:=gQ f3;have g4:=gQ f4;have g6:=gQ f6;have g7:=gQ f7;have g8:=gQ f8;have g5:0≤k5∧k5≤1000:=by
   unfold AG at f5;split at f5
   ·have:=gQ f5;omega
   ·simp at f5;omega
  exact⟨by omega,by omega,by omega,by omega,by omega,by omega,by omega,by omega,by omega,hb.1,hb.2⟩
theorem Bd{P:Prop}{k0 k1 k2 k3 k4 k5 k6 k7 k8 s:Int}{ds:List Int}{p q:Int}(hd:ds.length=12)(hr:nB k0 k1 k2 k3 k4 k5 k6 k7 k8 s ds p q=true)
 (h:∀(a0 a1 a2 a3 a4 a5 a6 a7 a8:Nat) (d0 d1 d2 d3 d4 d5 d6 d7 d8 d9 d10 d11:Int),(k0=(a0:Int)∧k1=(a1:Int)∧k2=(a2:Int)∧k3=(a3:Int)∧k4=(a4:Int)∧k5=(a5:Int)∧k6=(a6:Int)∧k7=(a7:Int)∧k8=(a8:Int))→ds=[d0,d1,d2,d3,d4,d5,d6,d7,d8,d9,d10,d11]→(a0<256∧a1<65536∧a2<65536∧a3<65536∧a4<65536∧a5<4294967296∧a6<281474976710656∧a7<281474976710656∧a8<281474976710656∧(0≤s∧s≤262144)∧∀z∈ds++[p,q],0≤z∧z<2048)→P):P:=by
 obtain⟨b0,b1,b2,b3,b4,b5,b6,b7,b8,bs,bp⟩:=KK hd hr;obtain⟨d0,d1,d2,d3,d4,d5,d6,d7,d8,d9,d10,d11,rfl⟩:=JQ hd;exact h k0.toNat k1.toNat k2.toNat k3.toNat k4.toNat k5.toNat k6.toNat k7.toNat k8.toNat d0 d1 d2 d3 d4 d5 d6 d7 d8 d9 d10 d11 ⟨by omega,by omega,by omega,by omega,by omega,by omega,by omega,by omega,by omega⟩ rfl ⟨by omega,by omega,by omega,by omega,by omega,by omega,by omega,by omega,by omega,bs,bp⟩
theorem iY.get{w:World}{a:Option Addr}{cap n:Nat}{zs:List Int}(h:iY w (.slice a n cap) n zs)(hn:0<n):∃b off,a=some ⟨b,off,none⟩∧b<w.heap.size∧∀i,i<n*24→w.cell? ⟨b,off+i,none⟩=some (.int .i64 (zs.getD i 0)):=by
 obtain⟨_,a',c',e,h2,_⟩:=h;injection e with e1 e2 e3;subst e1;exact h2 hn
def mN(r:List Int):Bool:=nB (r.getD 0 0) (r.getD 1 0) (r.getD 2 0) (r.getD 3 0) (r.getD 4 0) (r.getD 5 0) (r.getD 6 0) (r.getD 7 0) (r.getD 8 0) (r.getD 9 0) ((r.drop 10).take 12) (r.getD 22 0) (r.getD 23 0)
def cZ(r:List Int):List Int:=lC (r.getD 0 0).toNat (r.getD 1 0).toNat (r.getD 2 0).toNat (r.getD 3 0).toNat (r.getD 4 0).toNat (r.getD 5 0).toNat (r.getD 6 0).toNat (r.getD 7 0).toNat (r.getD 8 0).toNat (r.getD 9 0) ((r.drop 10).take 12) (r.getD 22 0) (r.getD 23 0)
theorem oM(r:List Int)(h:r.length=24):r=dI [r.getD 0 0,r.getD 1 0,r.getD 2 0,r.getD 3 0,r.getD 4 0,r.getD 5 0,r.getD 6 0,r.getD 7 0,r.getD 8 0] (r.getD 9 0) ((r.drop 10).take 12) (r.getD 22 0) (r.getD 23 0)∧((r.drop 10).take 12).length=12:=by
 match r,h with
 |[_,_,_,_,_,_,_,_,_,_,_,_,_,_,_,_,_,_,_,_,_,_,_,_],_=>exact⟨rfl,rfl⟩
theorem mO(r:List Int)(h:r.length=24):(cZ r).length=128:=JT _ _ _ _ _ _ _ _ _ _ _ _ _ (oM r h).2
theorem KL(k0 k1 k2 k3 k4 k5 k6 k7 k8 s:Int)(ds:List Int)(p q:Int)(w:World)(hd:ds.length=12)(hr:nB k0 k1 k2 k3 k4 k5 k6 k7 k8 s ds p q=true):Calls prog 95 #[.agg (an (dI [k0,k1,k2,k3,k4,k5,k6,k7,k8] s ds p q))] w fun e w'=>∃v',e=.returned v'∧w'.ownsRow w.heap.size 5 1 v' 128 ((lC k0.toNat k1.toNat k2.toNat k3.toNat k4.toNat k5.toNat k6.toNat k7.toNat k8.toNat s ds p q).map (Value.int .u8))∧Below w.heap.size w w':=by
 refine Bd hd hr fun a0 a1 a2 a3 a4 a5 a6 a7 a8 d0 d1 d2 d3 d4 d5 d6 d7 d8 d9 d10 d11 hk hds hbd=>?_;obtain⟨rfl,rfl,rfl,rfl,rfl,rfl,rfl,rfl,rfl⟩:=hk;subst hds;obtain⟨h0,h1,h2,h3,h4,h5,h6,h7,h8,hs,hp⟩:=hbd;exact JV a0 a1 a2 a3 a4 a5 a6 a7 a8 s [d0,d1,d2,d3,d4,d5,d6,d7,d8,d9,d10,d11] p q w rfl h0 h1 h2 h3 h4 h5 h6 h7 h8 hs hp
theorem KO(r:List Int)(w:World)(h:r.length=24)(hr:mN r=true):Calls prog 95 #[.agg (an r)] w fun e w'=>∃v',e=.returned v'∧w'.ownsRow w.heap.size 5 1 v' 128 ((cZ r).map (Value.int .u8))∧Below w.heap.size w w':=by
 have:=KL (r.getD 0 0) (r.getD 1 0) (r.getD 2 0) (r.getD 3 0) (r.getD 4 0) (r.getD 5 0) (r.getD 6 0) (r.getD 7 0) (r.getD 8 0) (r.getD 9 0) ((r.drop 10).take 12) (r.getD 22 0) (r.getD 23 0) w (oM r h).2 hr;rw[←(oM r h).1] at this;exact this
theorem KP(k0 k1 k2 k3 k4 k5 k6 k7 k8 s:Int)(ds:List Int)(p q:Int)(w:World)(hd:ds.length=12)(hr:nB k0 k1 k2 k3 k4 k5 k6 k7 k8 s ds p q=true):Calls prog 27 #[.agg (an (dI [k0,k1,k2,k3,k4,k5,k6,k7,k8] s ds p q))] w fun e w'=>∃v',e=.returned v'∧w'.ownsRow w.heap.size 5 1 v' 128 ((lC k0.toNat k1.toNat k2.toNat k3.toNat k4.toNat k5.toNat k6.toNat k7.toNat k8.toNat s ds p q).map (Value.int .u8))∧Below w.heap.size w w':=by
 refine Bd hd hr fun a0 a1 a2 a3 a4 a5 a6 a7 a8 d0 d1 d2 d3 d4 d5 d6 d7 d8 d9 d10 d11 hk hds hbd=>?_;obtain⟨rfl,rfl,rfl,rfl,rfl,rfl,rfl,rfl,rfl⟩:=hk;subst hds;obtain⟨h0,h1,h2,h3,h4,h5,h6,h7,h8,hs,hp⟩:=hbd;exact KJ a0 a1 a2 a3 a4 a5 a6 a7 a8 s d0 d1 d2 d3 d4 d5 d6 d7 d8 d9 d10 d11 p q w h0 h1 h2 h3 h4 h5 h6 h7 h8 hs hp
theorem Be(r:List Int)(w:World)(h:r.length=24)(hr:mN r=true):Calls prog 27 #[.agg (an r)] w fun e w'=>∃v',e=.returned v'∧w'.ownsRow w.heap.size 5 1 v' 128 ((cZ r).map (Value.int .u8))∧Below w.heap.size w w':=by
 have:=KP (r.getD 0 0) (r.getD 1 0) (r.getD 2 0) (r.getD 3 0) (r.getD 4 0) (r.getD 5 0) (r.getD 6 0) (r.getD 7 0) (r.getD 8 0) (r.getD 9 0) ((r.drop 10).take 12) (r.getD 22 0) (r.getD 23 0) w (oM r h).2 hr;rw[←(oM r h).1] at this;exact this
theorem KU(r:List Int)(h:r.length=24)(hz:rf r=true):mN r=true:=by
 unfold mN nB;rw[←(oM r h).1,hz,Bool.true_or]
def iZ(zs:List Int):Nat→Nat
 |0=>1
 |m+1=>if zs.getD (m*24) 0=0 then iZ zs m else m
def kr(zs:List Int)(n:Nat):Nat:=max (iZ zs n) 1
def allRows(zs:List Int)(n:Nat):Bool:=(range n).all fun k=>mN (er zs k)
def eK(zs:List Int)(n k:Nat):List Int:=if k<n then er zs k else replicate 24 0
theorem Bf(zs:List Int)(n k:Nat)(hz:zs.length=n*24):(eK zs n k).length=24:=by
 unfold eK;split
 ·exact oL zs k n hz ‹_›
 ·simp
theorem Bg{zs:List Int}{n k:Nat}(h:allRows zs n=true)(hk:k<n):mN (er zs k)=true:=by
 unfold allRows at h;rw[List.all_eq_true] at h;exact h k (by simpa using hk)
theorem KV:mN (replicate 24 0)=true:=KU _ (by simp) ((yO _).2 (fun x hx=>(List.mem_replicate.1 hx).2))
theorem KX{zs:List Int}{n:Nat}(h:allRows zs n=true)(k:Nat):mN (eK zs n k)=true:=by
 unfold eK;split
 ·exact Bg h ‹_›
 ·exact KV
theorem Bh(zs:List Int):∀n,iZ zs n<max n 2
 |0=>by simp[iZ]
 |m+1=>by
  have:=Bh zs m;unfold iZ;split<;>omega
theorem La(zs:List Int)(n:Nat)(hz:zs.length=n*24):∀m,((range m).map fun k=>cZ (eK zs n k)).flatten.length=m*128:=by
 intro m;induction m with
 |zero=>rfl
 |succ m ih=>
  rw[range_succ,map_append,flatten_append,length_append,ih];simp[mO _ (Bf zs n m hz)];omega
theorem oO{P:Program}{ops:Array Oper}{rest:List Oper}{o:Oper}{a:Act}{w:World}{Q:Exit→Act→World→Prop}(B:Nat)(W0:World)(hgd:o.guard=none)(ty:TypeId)(x y:Operand)(ho:o.op=.store ty x y)
 (g:Nat) (cells:Array Value) (hx:a.eval x=.pointer (some ⟨g,0,none⟩)) (hy:a.eval y=.agg cells)
 (t:TypeId) (old:Array Value) (hg:af w g old t) (hi:(P.info? ty).map (·.size)=some cells.size)
 (hold:old.size=cells.size) (h1:cells.all (·.oneCell')=true) (hB:Below B W0 w) (hBg:B≤g)
 (h:∀w2,af w2 g cells t→Below B W0 w2→wpList P ops Q rest (a.put o.dst undef) w2):wpList P ops Q (o::rest) a w:=
 wpList_store_row hgd ty x y ho g cells hx hy t old hg hi hold h1 (h _ (hg.row cells) (below_setRow hB hBg cells))
theorem Lb(v:Value)(n:Nat)(zs:List Int)(w:World)(h:iY w v n zs):
 Calls prog 26 #[v] w fun e w'=>e=.returned (.int .i64 (kr zs n))∧Below w.heap.size w w':=by
 have hm:=h.len;have hz:=h.1;unfold maxLen at hm;rcases h.parts with⟨a,cap,rfl,hlow⟩|⟨b,off,cap,rfl,hbw,hcell⟩;all_goals
  clear h;go_enter func26,ntmps26;go_wp2;go_loopw [3,8] (fun x i wr=>∃k:Nat,k≤n∧i=.int .i64 k∧x=.int .i64 (iZ zs k)∧Below w.heap.size w wr) (fun _ i _=>n-(intOf i).toNat)
  case atStart=>exact⟨0,Nat.zero_le _,rfl,rfl,ak⟩
  case round=>
   obtain⟨k,hk,rfl,rfl,hb1⟩:=hrel;by_cases hlt:k<n
   ·first
    |omega
    |(
     have hr:=vK (w:=wr) (b:=b) (off:=off) hz hlt (fun i hi=>(hb1.cell (p:=⟨b,off+i,none⟩) hbw).trans (hcell i hi));have hlen:=oL zs k n hz hlt;have e0:(er zs k).getD 0 0=zs.getD (k*24) 0:=Bc zs k 0 (by omega);have hL:iZ zs (k+1)=if zs.getD (k*24) 0=0 then iZ zs k else k:=rfl;rw[←e0] at hL;have HL:=aa hL;have HL:=aa hL;have hg0:=qq (er zs k) 0 (by omega);generalize (er zs k).getD 0 0=z at hg0 HL;have HG:=aa hg0;generalize er zs k=r at hr hlen HG;have HR:=aa hr;have HN:=aa hlen;have HZ:=ae ((an r).size=24) (by rw[ct];exact HN.out);have HK:=ae (af (wr.alloc (.cells (an (replicate 24 0)) 33)) wr.heap.size (an (replicate 24 0)) 33∧Below w.heap.size w (wr.alloc (.cells (an (replicate 24 0)) 33))) (⟨af.new _ _ _,hb1.alloc hb1.size _⟩);have Wo:=hb1.size;clear hr hlen hL hg0 e0 hb1 hcell;by_cases hk0:z=0
     ·subst hk0;have HM:=ae (iZ zs (k+1)=iZ zs k) (by rw[HL.out];rfl);go_wp2_with (first|(refine wpList_load_mid rfl 33 _ rfl b (off+k*24) rfl (r.map (Value.int .i64)) _ HR.out underlying33 rfl (by rw[length_map,HN.out];exact iC) ?_)|(refine oO w.heap.size w rfl 33 _ _ rfl wr.heap.size (an r) rfl rfl 33 (an (replicate 24 0)) HK.out.1 (by rw[HZ.out];exact iC) (by rw[HZ.out];rfl) (mT _) HK.out.2 Wo ?_;intro w2 k2 b2;have c0:=(k2.cell 0).trans HG.out;have B2:=aa b2;clear k2 b2));go_roundw
      case rel=>exact⟨k+1,by omega,by go_num,by rw[HM.out],B2.out⟩
      case measure=>simp[intOf];omega
     ·have HM:=ae (iZ zs (k+1)=k) (by rw[HL.out,if_neg hk0]);have hkb:(z !=0)=true:=(by simpa using hk0);go_wp2_with (first|(refine wpList_load_mid rfl 33 _ rfl b (off+k*24) rfl (r.map (Value.int .i64)) _ HR.out underlying33 rfl (by rw[length_map,HN.out];exact iC) ?_)|(refine oO w.heap.size w rfl 33 _ _ rfl wr.heap.size (an r) rfl rfl 33 (an (replicate 24 0)) HK.out.1 (by rw[HZ.out];exact iC) (by rw[HZ.out];rfl) (mT _) HK.out.2 Wo ?_;intro w2 k2 b2;have c0:=(k2.cell 0).trans HG.out;have B2:=aa b2;clear k2 b2));go_roundw
      case rel=>exact⟨k+1,by omega,by go_num,by rw[HM.out],B2.out⟩
      case measure=>simp[intOf];omega)
   ·have hkn:k=n:=(by omega);subst hkn;have HB:=aa hb1;have hll:=Bh zs k;have hmm:(k:Int)≤9223372036854775807:=(by omega);clear hb1;by_cases hl1:iZ zs k<1
    ·have HM:=ae (kr zs k=1) (by unfold kr;omega);have hld:((iZ zs k:Nat):Int)<1:=(by omega);go_wp2;go_ret;exact⟨gz (by rw[HM.out];rfl),HB.out⟩
    ·have HM:=ae (kr zs k=iZ zs k) (by unfold kr;omega);have hld:¬((iZ zs k:Nat):Int)<1:=(by omega);go_wp2;go_ret;exact⟨gz (by rw[HM.out]),HB.out⟩
theorem Lc(v:Value)(n:Nat)(zs:List Int)(w:World)(h:iY w v n zs)(hall:allRows zs n=true)(hlast:kr zs n≤1000):
 Calls prog 10 #[v] w fun e w'=>∃v',e=.returned v'∧w'.ownsRow w.heap.size 5 1 v' (((range (kr zs n+1)).map fun k=>cZ (eK zs n k)).flatten).length ((((range (kr zs n+1)).map fun k=>cZ (eK zs n k)).flatten).map (Value.int .u8))∧Below w.heap.size w w':=by
 obtain⟨i0,hi,hz0,hz1',hz2⟩:=info_parts eO;have HX:=aa (ai h (ai hall hlast));have H0:=aa (nN w 5);have hb0:=ae (Below w.heap.size w (w.alloc (.cells #[] 5))) (ak.alloc aj _);obtain⟨hz,a,cap,rfl,_⟩:=h;clear hall;generalize hLe:kr zs n=L at hlast;have HLe:=aa hLe;clear hLe;go_enter func10,ntmps10;go_wp2;go_loopw [3,4] (fun o i wr=>∃k:Nat,k≤L+1∧i=.int .i64 k∧wr.ownsRow w.heap.size 5 1 o (((range k).map fun k=>cZ (eK zs n k)).flatten).length ((((range k).map fun k=>cZ (eK zs n k)).flatten).map (Value.int .u8))∧Below w.heap.size w wr) (fun _ i _=>L+1-(intOf i).toNat)
 case atStart=>exact⟨0,by omega,rfl,by simpa using H0.out,hb0.out⟩
 case round=>
  clear H0 hb0;obtain⟨k,hk,rfl,hown,hb⟩:=hrel;have HO:=aa hown;have HB:=aa hb;clear hown hb;go_wp2_with (go_at_call 26;fail);refine(Lb (.slice a n cap) n zs _ (HX.out.1.below HB.out)).mono ?_;rintro e w1 ⟨rfl,b1⟩;rw[HLe.out];have O1:=aa (cC HO.out b1);have B1:=aa (HB.out.trans (b1.mono HB.out.size));have Wo:=B1.out.size;clear b1 HO HB;by_cases hlt:k≤L
  ·have HT:=ae (((range (k+1)).map fun k=>cZ (eK zs n k)).flatten=((range k).map fun k=>cZ (eK zs n k)).flatten++cZ (eK zs n k)) (by
    rw[range_succ,map_append,flatten_append];simp)
   have SB:=aa (La zs n hz k);have PM:=aa (KX HX.out.2.1 k);have HN:=aa (Bf zs n k hz);by_cases hkn:k<n
   ·obtain⟨b,off,rfl,hbw,hcell⟩:=HX.out.1.get (by omega);have hr:=vK (w:=w1) (b:=b) (off:=off) hz hkn (fun i hi=>(B1.out.cell (p:=⟨b,off+i,none⟩) hbw).trans (hcell i hi));have hro:eK zs n k=er zs k:=(by rw[eK,if_pos hkn]);rw[←hro] at hr;have N2:b<w1.heap.size:=Nat.lt_of_lt_of_le hbw B1.out.size;generalize eK zs n k=r at hr HT PM HN;have HR:=ae (∀w4,Below w1.heap.size w1 w4→w4.rangeAt b (off+k*24) (r.map (Value.int .i64))) (fun w4 h4 j v hv=>(h4.cell (p:=⟨b,off+k*24+j,none⟩) N2).trans (hr j v hv));have HZ:=ae ((an r).size=24) (by rw[ct];exact HN.out);have HK:=ae (af (w1.alloc (.cells (an (replicate 24 0)) 33)) w1.heap.size (an (replicate 24 0)) 33∧Below w1.heap.size w1 (w1.alloc (.cells (an (replicate 24 0)) 33))) (⟨af.new _ _ _,ak.alloc aj _⟩);clear hr hro hcell;go_wp2_with (first|(refine oO w1.heap.size w1 rfl 33 _ _ rfl w1.heap.size (an (replicate 24 0)) rfl rfl 33 (an (replicate 24 0)) HK.out.1 iC rfl (mT _) HK.out.2 aj ?_;intro w4 k4 b4;have K4:=aa k4;have B4:=aa b4;clear k4 b4)|(refine wpList_load_mid rfl 33 _ rfl b (off+k*24) rfl (r.map (Value.int .i64)) _ (HR.out _ B4.out) underlying33 rfl (by rw[length_map,HN.out];exact iC) ?_)|(refine oO w1.heap.size w1 rfl 33 _ _ rfl w1.heap.size (an r) rfl rfl 33 (an (replicate 24 0)) K4.out (by rw[HZ.out];exact iC) (by rw[HZ.out];rfl) (mT _) B4.out aj ?_;intro w5 k5 b5;have K5:=aa k5;have O5:=aa (cC O1.out b5);have B5:=aa (B1.out.trans (b5.mono B1.out.size));clear k5 b5 K4 B4)|(refine wpList_load_row rfl 33 _ rfl w1.heap.size rfl 33 (an r) (0,0) _ K5.out underlying33 rfl (by rw[HZ.out];exact iC) ?_)|(go_at_call 27;fail));refine(Be r _ HN.out PM.out).mono ?_;rintro e w6 ⟨v6,rfl,o6,b6⟩;have hs6:=b6.size;have O6:=aa (cC O5.out b6);have B6:=aa (B5.out.trans (b6.mono B5.out.size));obtain⟨bd,OK,cp,rfl,Wp,_,_,sy⟩:=(Rd.own (zs:=cZ r) o6).dJ (by rw[mO r HN.out];omega);have N6:=mO r HN.out;have Wq:=ae (∀(j:Nat) (u:Value),((cZ r).map (Value.int .u8))[j]?=some u→w6.cell? ((⟨bd,OK,none⟩:Addr).add j)=some u) (fun j u hj=>by
     have hjl:j<(cZ r).length:=by
      rcases Nat.lt_or_ge j (cZ r).length with h|h
      ·exact h
      ·rw[List.getElem?_eq_none (by simpa using h)] at hj;cases hj
     rw[Addr.add_mid,sy j hjl];rw[getElem?_map,List.getElem?_eq_getElem hjl] at hj;simp at hj;rw[←hj];simp[getD,hjl])
    have hcap6:(((range k).map fun k=>cZ (eK zs n k)).flatten).length≤128128:=(by rw[SB.out];omega);have Pm:=aa N6;rw[N6];clear sy o6 b6 O5 B5 K5 N6;go_wp2_with (at_builtin;refine kP _ rfl (.tmp 22) (.tmp 24) 22 rfl w.heap.size 5 i0 (.int .u8 0) 1 1 underlying22 hi hz0 hz1' hz2 rfl (by decide) _ _ _ rfl O6.out ⟨bd,OK,none⟩ 128 cp ((cZ r).map (Value.int .u8)) rfl (by rw[length_map,Pm.out]) Wq.out (ints_oneCell _ _) (by omega) (by unfold maxLen;omega) (by omega) (B6.out.size) ?_;intro v7 w7 o7 g7 f7);have HW:=ae (w7.ownsRow w.heap.size 5 1 v7 (((range (k+1)).map fun k=>cZ (eK zs n k)).flatten).length ((((range (k+1)).map fun k=>cZ (eK zs n k)).flatten).map (Value.int .u8))∧Below w.heap.size w w7) (by
     refine⟨?_,B6.out.grown g7 B6.out.size (fun r h=>(O6.out.lt r h).1)⟩;rw[HT.out,map_append,length_append,Pm.out];exact o7)
    clear o7 g7 f7;go_roundw
    case rel=>exact⟨k+1,by omega,by go_num,HW.out.1,HW.out.2⟩
    case measure=>simp[intOf];omega
   ·have hro:eK zs n k=replicate 24 0:=(by rw[eK,if_neg hkn]);have HK:=ae (af (w1.alloc (.cells (an (replicate 24 0)) 33)) w1.heap.size (an (replicate 24 0)) 33∧Below w1.heap.size w1 (w1.alloc (.cells (an (replicate 24 0)) 33))) (⟨af.new _ _ _,ak.alloc aj _⟩);rw[←hro] at HK;have NW:=aa hro;generalize eK zs n k=r at HT PM HN NW HK;have HZ:=ae ((an r).size=24) (by rw[ct];exact HN.out);go_wp2_with (first|(refine oO w1.heap.size w1 rfl 33 _ _ rfl w1.heap.size (an r) rfl (by rw[NW.out];rfl) 33 (an (replicate 24 0)) (by have h:=HK.out.1;rw[NW.out] at h;exact h) (by rw[HZ.out];exact iC) (by rw[HZ.out];rfl) (mT _) (by have h:=HK.out.2;rw[NW.out] at h;exact h) aj ?_;intro w5 k5 b5;have K5:=aa k5;have O5:=aa (cC O1.out b5);have B5:=aa (B1.out.trans (b5.mono B1.out.size));clear k5 b5)|(refine wpList_load_row rfl 33 _ rfl w1.heap.size rfl 33 (an r) (0,0) _ K5.out underlying33 rfl (by rw[HZ.out];exact iC) ?_)|(go_at_call 27;fail));refine(Be r _ HN.out PM.out).mono ?_;rintro e w6 ⟨v6,rfl,o6,b6⟩;have hs6:=b6.size;have O6:=aa (cC O5.out b6);have B6:=aa (B5.out.trans (b6.mono B5.out.size));obtain⟨bd,OK,cp,rfl,Wp,_,_,sy⟩:=(Rd.own (zs:=cZ r) o6).dJ (by rw[mO r HN.out];omega);have N6:=mO r HN.out;have Wq:=ae (∀(j:Nat) (u:Value),((cZ r).map (Value.int .u8))[j]?=some u→w6.cell? ((⟨bd,OK,none⟩:Addr).add j)=some u) (fun j u hj=>by
     have hjl:j<(cZ r).length:=by
      rcases Nat.lt_or_ge j (cZ r).length with h|h
      ·exact h
      ·rw[List.getElem?_eq_none (by simpa using h)] at hj;cases hj
     rw[Addr.add_mid,sy j hjl];rw[getElem?_map,List.getElem?_eq_getElem hjl] at hj;simp at hj;rw[←hj];simp[getD,hjl])
    have hcap6:(((range k).map fun k=>cZ (eK zs n k)).flatten).length≤128128:=(by rw[SB.out];omega);have Pm:=aa N6;rw[N6];clear sy o6 b6 O5 B5 K5 N6;go_wp2_with (at_builtin;refine kP _ rfl (.tmp 22) (.tmp 24) 22 rfl w.heap.size 5 i0 (.int .u8 0) 1 1 underlying22 hi hz0 hz1' hz2 rfl (by decide) _ _ _ rfl O6.out ⟨bd,OK,none⟩ 128 cp ((cZ r).map (Value.int .u8)) rfl (by rw[length_map,Pm.out]) Wq.out (ints_oneCell _ _) (by omega) (by unfold maxLen;omega) (by omega) (B6.out.size) ?_;intro v7 w7 o7 g7 f7);have HW:=ae (w7.ownsRow w.heap.size 5 1 v7 (((range (k+1)).map fun k=>cZ (eK zs n k)).flatten).length ((((range (k+1)).map fun k=>cZ (eK zs n k)).flatten).map (Value.int .u8))∧Below w.heap.size w w7) (by
     refine⟨?_,B6.out.grown g7 B6.out.size (fun r h=>(O6.out.lt r h).1)⟩;rw[HT.out,map_append,length_append,Pm.out];exact o7)
    clear o7 g7 f7;go_roundw
    case rel=>exact⟨k+1,by omega,by go_num,HW.out.1,HW.out.2⟩
    case measure=>simp[intOf];omega
  ·have hke:k=L+1:=(by omega);subst hke;go_wp2;go_ret;exact⟨_,rfl,O1.out,B1.out⟩
end
section
open Go.RowKit
section
variable {P:Program}
end
end
section
open Go.RowKit
theorem Ld(Z:List Int)(T:Nat)(hZ:Z.length=T*24):∀m,m≤T→((range m).map fun k=>cZ (er Z k)).flatten.length=m*128:=by
 intro m;induction m with
 |zero=>intro _;rfl
 |succ m ih=>
  intro h;rw[range_succ,map_append,flatten_append,length_append,ih (by omega)];simp[mO _ (oL Z m T hZ (by omega))];omega
theorem Le(v:Value)(T:Nat)(Z:List Int)(w2:World)(h:iY w2 v T Z)(h2:2≤T)(hbd:T≤1001)(hal:allRows Z T=true):
 Calls prog 53 #[v] w2 fun e w'=>∃v',e=.returned v'∧w'.ownsRow w2.heap.size 5 1 v' (((range T).map fun k=>cZ (er Z k)).flatten).length ((((range T).map fun k=>cZ (er Z k)).flatten).map (Value.int .u8))∧Below w2.heap.size w2 w':=by
 obtain⟨i0,hi,hz0,hz1',hz2⟩:=info_parts eO;have R2:=aa h;have Nx:=aa hal;clear h hal;obtain⟨b,off,cap,rfl,hbw,hcell⟩:=(R2.out.parts).resolve_left (by rintro ⟨a,c,_,h⟩;omega);have hZ:=R2.out.1;clear R2;go_enter func53,ntmps53;go_wp2_with (first|(refine wpList_make_own _ rfl _ _ 22 rfl w2.heap.size 5 i0 (.int .u8 0) 1 underlying22 hi hz0 hz1' .i64 .i64 _ (T*128) rfl rfl (by go_num) (by rw[hz2];omega) (by unfold maxLen;omega) aj ?_;intro w3 o3 g3;have O3:=aa o3;have G3:=ae (Below w2.heap.size w2 w3) (ak.grown g3 aj (fun k h=>by cases h));clear o3 g3));go_loopw [3,12] (fun o i wr=>∃k:Nat,k≤T∧i=.int .i64 k∧wr.ownsRow w2.heap.size 5 1 o (((range k).map fun k=>cZ (er Z k)).flatten).length ((((range k).map fun k=>cZ (er Z k)).flatten).map (Value.int .u8))∧Below w2.heap.size w2 wr) (fun _ i _=>T-(intOf i).toNat)
 case atStart=>exact⟨0,by omega,rfl,by simpa using O3.out,G3.out⟩
 case round=>
  clear O3 G3;obtain⟨k,hk,rfl,hown,hb1⟩:=hrel;have HOw:=aa hown;have HBw:=aa hb1;clear hown;by_cases hlt:k<T
  ·have HT:=ae (((range (k+1)).map fun k=>cZ (er Z k)).flatten=((range k).map fun k=>cZ (er Z k)).flatten++cZ (er Z k)) (by
    rw[range_succ,map_append,flatten_append];simp)
   have SB:=aa (Ld Z T hZ k hk);have PM:=aa (Bg Nx.out hlt);have hr:=vK (w:=wr) (b:=b) (off:=off) hZ hlt (fun i hi=>(hb1.cell (p:=⟨b,off+i,none⟩) hbw).trans (hcell i hi));have hlen:=oL Z k T hZ hlt;generalize er Z k=r at hr hlen HT PM;have HR:=aa hr;have HN:=aa hlen;have HZ:=ae ((an r).size=24) (by rw[ct];exact HN.out);have HK:=ae (af (wr.alloc (.cells (an (replicate 24 0)) 33)) wr.heap.size (an (replicate 24 0)) 33∧Below wr.heap.size wr (wr.alloc (.cells (an (replicate 24 0)) 33))) (⟨af.new _ _ _,ak.alloc aj _⟩);have hcap6:(((range k).map fun k=>cZ (er Z k)).flatten).length≤128128:=(by rw[SB.out];omega);clear hr hlen hb1 hcell;go_wp2_with (first|(refine wpList_load_mid rfl 33 _ rfl b (off+k*24) rfl (r.map (Value.int .i64)) _ HR.out underlying33 rfl (by rw[length_map,HN.out];exact iC) ?_)|(refine oO wr.heap.size wr rfl 33 _ _ rfl wr.heap.size (an r) rfl rfl 33 (an (replicate 24 0)) HK.out.1 (by rw[HZ.out];exact iC) (by rw[HZ.out];rfl) (mT _) HK.out.2 aj ?_;intro w5 k5 b5;have K5:=aa k5;have O5:=aa (cC HOw.out b5);have B5:=aa (HBw.out.trans (b5.mono HBw.out.size));clear k5 b5)|(refine wpList_load_row rfl 33 _ rfl wr.heap.size rfl 33 (an r) (0,0) _ K5.out underlying33 rfl (by rw[HZ.out];exact iC) ?_)|(go_at_call 95;fail));refine(KO r _ HN.out PM.out).mono ?_;rintro e w6 ⟨v6,rfl,o6,b6⟩;have hs6:=b6.size;have O6:=aa (cC O5.out b6);have B6:=aa (B5.out.trans (b6.mono B5.out.size));obtain⟨bd,OK,cp,rfl,Wp,_,_,sy⟩:=(Rd.own (zs:=cZ r) o6).dJ (by rw[mO r HN.out];omega);have N6:=mO r HN.out;have Wq:=ae (∀(j:Nat) (u:Value),((cZ r).map (Value.int .u8))[j]?=some u→w6.cell? ((⟨bd,OK,none⟩:Addr).add j)=some u) (fun j u hj=>by
    have hjl:j<(cZ r).length:=by
     rcases Nat.lt_or_ge j (cZ r).length with h|h
     ·exact h
     ·rw[List.getElem?_eq_none (by simpa using h)] at hj;cases hj
    rw[Addr.add_mid,sy j hjl];rw[getElem?_map,List.getElem?_eq_getElem hjl] at hj;simp at hj;rw[←hj];simp[getD,hjl])
   have Pm:=aa N6;rw[N6];clear sy o6 b6 O5 B5 K5 N6;go_wp2_with (at_builtin;refine kP _ rfl (.tmp 16) (.tmp 18) 22 rfl w2.heap.size 5 i0 (.int .u8 0) 1 1 underlying22 hi hz0 hz1' hz2 rfl (by decide) _ _ _ rfl O6.out ⟨bd,OK,none⟩ 128 cp ((cZ r).map (Value.int .u8)) rfl (by rw[length_map,Pm.out]) Wq.out (ints_oneCell _ _) (by omega) (by unfold maxLen;omega) (by omega) (B6.out.size) ?_;intro v7 w7 o7 g7 f7);have HW:=ae (w7.ownsRow w2.heap.size 5 1 v7 (((range (k+1)).map fun k=>cZ (er Z k)).flatten).length ((((range (k+1)).map fun k=>cZ (er Z k)).flatten).map (Value.int .u8))∧Below w2.heap.size w2 w7) (by
    refine⟨?_,B6.out.grown g7 B6.out.size (fun r h=>(O6.out.lt r h).1)⟩;rw[HT.out,map_append,length_append,Pm.out];exact o7)
   clear o7 g7 f7;go_roundw
   case rel=>exact⟨k+1,by omega,by go_num,HW.out.1,HW.out.2⟩
   case measure=>simp[intOf];omega
  ·have hkn:k=T:=(by omega);subst hkn;clear hb1;go_wp2;go_ret;exact⟨_,rfl,HOw.out,HBw.out⟩
end
end Go.Proofs.YtpplnhkpcpieoaaGreatDoor
