/- The program's openFlush. -/
import Derived.Test.YtlimollpocagiaaGreatDoorXa33
import Derived.Test.YtlimollpocagiaaGreatDoorXa34
namespace Go.Proofs.YtlimollpocagiaaGreatDoor
open Go.Proofs.Tryz
open _root_.List (getD replicate length_map length_replicate)
set_option linter.all false
set_option maxRecDepth 100000
set_option maxHeartbeats 16000000
section
open Go.RowKit Go.Shelf
attribute [local go_sem] Oper.semAt_some
def kx(zs ws:List Int):Bool:=decide (ws.length=zs.length/512)
def jH(s:Int)(ws:List Int):Bool:=decide (s=0)||decide (s=4*(ws.length:Int))
def dS(zs:List Int)(s:Int)(ds:List Int)(p q:Int)(ws:List Int)(cu:Int):Bool:=(((cV zs s ds p q&&dP ws)&&kx zs ws)&&jH s ws)&&j8 ws.length cu
def eB(m:Nat)(Ls:Nat→List Int):List Int:=(List.range m).map (fun k=>(Ls 0).getD k 0)++[(Ls 1).getD 0 0]
theorem oD{m k:Nat}(Ls:Nat→List Int)(h:k<m):(eB m Ls).getD k 0=(Ls 0).getD k 0:=by
 unfold eB;rw[getD,List.getElem?_append_left (by simpa using h)];simp[h]
theorem oE(m:Nat)(Ls:Nat→List Int):(eB m Ls).getD m 0=(Ls 1).getD 0 0:=by
 unfold eB;rw[getD,List.getElem?_append_right (by simp)];simp
def eD(zs:List Int)(s:Int)(ds:List Int)(p q:Int):Nat→List Int:=dG (aM (ZR zs s ds p q).1)
def dO(zs:List Int)(s:Int)(ds:List Int)(p q:Int)(n:Nat):List Int:=cm (cR zs s.toNat (aM (ZR zs s ds p q).1)) (s.toNat/4)++replicate (n-s.toNat/4) 0
def fP(m:Nat)(ws:List Int)(cu:Int):FD:=⟨ws,replicate (m+1) 0,[],cu.toNat⟩
def oF(w w':World)(zs:List Int)(s:Int)(ds:List Int)(p q:Int)(ws:List Int)(cu:Int)(e:Ending):Prop:=
 (
  (dS zs s ds p q ws cu=false∧∃ev k,e=.returned (.tuple #[.pointer none,ev])∧bj w' 0 k ev 7)∨
  (dS zs s ds p q ws cu=true∧(ZR zs s ds p q).2=true∧∃ev k,e=.returned (.tuple #[.pointer none,ev])∧bj w' 0 k ev 21)∨
  (dS zs s ds p q ws cu=true∧(ZR zs s ds p q).2=false∧∃b R,e=.returned (.tuple #[.pointer (some ⟨b,0,none⟩),.nilIface])∧w.heap.size≤b∧dA w' w.heap.size b ((ws.length+127)/128) (dO zs s ds p q ws.length) (eB ((ws.length+127)/128) (eD zs s ds p q)) (fP ((ws.length+127)/128) ws cu) R (.slice none 0 0)))∧Below w.heap.size w w'
theorem lO{zs:List Int}{s:Int}{ds:List Int}{p q:Int}{ws:List Int}{cu:Int}(h:dS zs s ds p q ws cu=true):0≤s∧s≤262144∧ws.length=zs.length/512∧(s=0∨s=4*(ws.length:Int))∧(2≤cu∧cu<(ws.length:Int)):=by
 unfold dS cV kx jH j8 at h;simp only[Bool.and_eq_true,Bool.or_eq_true,decide_eq_true_eq] at h;obtain⟨⟨⟨⟨⟨_,h1⟩,_⟩,h2⟩,h3⟩,h4⟩:=h;exact⟨(lD h1).1,(lD h1).2,h2,h3,h4⟩
theorem jI(bs:List Int)(n:Nat):(cm bs n).length=n:=by unfold cm;simp
theorem vK{w:World}{base n c:Nat}{a:Option Addr}{X:List Value}(h:w.ownsRow base 3 1 (.slice a n c) n X)(hp:0<X.length):∃ad,a=some ad∧∀j v,X[j]?=some v→w.cell? (ad.add j)=some v:=by
 rcases h.2 with⟨e,h0⟩|⟨g,cap,cur,e,_⟩
 ·have:=h.1;omega
 ·injection e with e1 e2 e3;subst e1;exact⟨_,rfl,fun j v hv=>h.cells rfl j v hv⟩
theorem CJ(out:List Int)(o:Nat)(B:List Int):(iP out o B).length=out.length:=by
 unfold iP;simp only[List.length_append,List.length_take,List.length_drop];omega
theorem CK{out:List Int}{o:Nat}{B:List Int}{z:Int}(h:z∈iP out o B):z∈out∨z∈B:=by
 unfold iP at h;rcases List.mem_append.1 h with h|h
 ·rcases List.mem_append.1 h with h|h
  ·exact .inl (List.mem_of_mem_take h)
  ·exact .inr (List.mem_of_mem_take h)
 ·exact .inl (List.mem_of_mem_drop h)
theorem qU(zs:List Int)(hbd:∀z∈zs,0≤z∧z<256):∀(L:List HG) (out:List Int),(∀z∈out,0≤z∧z<256)→(L.foldl (fN (aV zs)) out).length=out.length∧∀z∈L.foldl (fN (aV zs)) out,0≤z∧z<256
 |[],out,h=>⟨rfl,h⟩
 |g::L,out,h=>by
  have h1:(fN (aV zs) out g).length=out.length∧∀z∈fN (aV zs) out g,0≤z∧z<256:=by
   unfold fN;split
   ·refine⟨CJ _ _ _,fun z hz=>?_⟩;rcases CK hz with hz|hz
    ·exact h z hz
    ·exact hbd z (List.mem_of_mem_drop (List.mem_of_mem_take hz))
   ·exact⟨rfl,h⟩
  obtain⟨a,b⟩:=qU zs hbd L (fN (aV zs) out g) h1.2;exact⟨a.trans h1.1,b⟩
theorem qV{zs:List Int}(hbd:∀z∈zs,0≤z∧z<256){sz:Nat}{L:List TX}:∀z∈cR zs sz L,0≤z∧z<256:=by
 unfold cR;exact(qU zs hbd _ _ (fun z hz=>by rw[List.eq_of_mem_replicate hz];omega)).2
def rV(lb wb n:Nat)(sl:Nat→Value):Nat→Value:=fun j=>if j=0 then .slice (some ⟨lb,0,none⟩) n n else if j=1 then .slice (some ⟨wb,0,none⟩) n n else if j<5 then sl (j-2) else .slice none 0 0
def lV(bf ws:List Int)(Ls:Nat→List Int):Nat→List Int:=fun j=>if j=0 then bf else if j=1 then ws else if j<5 then Ls (j-2) else []
theorem vL{W:World}{base bF lb wb n m:Nat}{bf ws:List Int}{Ls:Nat→List Int}{cu:Int}{d0 d1 d2:Value}(sl:Nat→Value)
 (hbox:af W bF #[.slice (some ⟨lb,0,none⟩) n n,.slice (some ⟨wb,0,none⟩) n n,d0,d1,d2,.slice none 0 0,.slice none 0 0,.slice none 0 0,.slice none 0 0,.int .i64 cu] 113)
 (hbf:W.ownsRow base 3 1 (.slice (some ⟨lb,0,none⟩) n n) bf.length (bf.map (Value.int .i64)))
 (hws:W.ownsRow base 3 1 (.slice (some ⟨wb,0,none⟩) n n) ws.length (ws.map (Value.int .i64)))
 (h0:sl 0=d0) (h1:sl 1=d1) (h2:sl 2=d2)
 (hr:∀l,l<3→W.ownsRow base 3 1 (sl l) (Ls l).length ((Ls l).map (Value.int .i64)))
 (hap:∀l m,l<3→m<3→l≠m→(sl l).ownBlock=none∨(sl l).ownBlock≠(sl m).ownBlock)
 (hlt:∀l k,l<3→(sl l).ownBlock=some k→k<lb) (hlw:lb<wb) (hcu:0≤cu):
 dA W base bF m bf (eB m Ls) (fP m ws cu) (rV lb wb n sl) (.slice none 0 0):=by
 refine⟨_,lV bf ws Ls,⟨hbox,fun j hj=>?_,fun j hj=>?_,fun i j hi hj hne=>?_,rfl,World.ownsRow_nil _ _ _ _,?_⟩,⟨rfl,rfl,fun k hk=>?_,by simp[lV],?_,by simp[lV],fun k hk=>(oD Ls hk).symm,(oE m Ls).symm,rfl⟩⟩
 ·subst h0 h1 h2;rcases(show j=0∨j=1∨j=2∨j=3∨j=4∨j=5∨j=6∨j=7 by omega) with rfl|rfl|rfl|rfl|rfl|rfl|rfl|rfl<;>rfl
 ·rcases(show j=0∨j=1∨(2≤j∧j<5)∨5≤j by omega) with rfl|rfl|h|h
  ·exact hbf
  ·exact hws
  ·have e1:rV lb wb n sl j=sl (j-2):=(by unfold rV;rw[if_neg (by omega),if_neg (by omega),if_pos h.2]);have e2:lV bf ws Ls j=Ls (j-2):=(by unfold lV;rw[if_neg (by omega),if_neg (by omega),if_pos h.2]);rw[e1,e2];exact hr (j-2) (by omega)
  ·have e1:rV lb wb n sl j=.slice none 0 0:=(by unfold rV;rw[if_neg (by omega),if_neg (by omega),if_neg (by omega)]);have e2:lV bf ws Ls j=[]:=(by unfold lV;rw[if_neg (by omega),if_neg (by omega),if_neg (by omega)]);rw[e1,e2];exact World.ownsRow_nil _ _ _ _
 ·have key:∀i,i<8→(i=0∧(rV lb wb n sl i).ownBlock=some lb)∨(i=1∧(rV lb wb n sl i).ownBlock=some wb)∨(2≤i∧i<5∧rV lb wb n sl i=sl (i-2))∨(5≤i∧(rV lb wb n sl i).ownBlock=none):=by
   intro i hi;rcases(show i=0∨i=1∨(2≤i∧i<5)∨5≤i by omega) with rfl|rfl|h|h
   ·exact .inl ⟨rfl,rfl⟩
   ·exact .inr (.inl ⟨rfl,rfl⟩)
   ·exact .inr (.inr (.inl ⟨h.1,h.2,by unfold rV;rw[if_neg (by omega),if_neg (by omega),if_pos h.2]⟩))
   ·exact .inr (.inr (.inr ⟨h,by unfold rV;rw[if_neg (by omega),if_neg (by omega),if_neg (by omega)];rfl⟩))
  rcases key i hi with⟨a,x⟩|⟨a,x⟩|⟨a1,a2,x⟩|⟨a,x⟩
  ·rcases key j hj with⟨b,y⟩|⟨b,y⟩|⟨b1,b2,y⟩|⟨b,y⟩
   ·omega
   ·right;rw[x,y];intro e;injection e with e;omega
   ·right;rw[x,y];intro e;have:=hlt (j-2) lb (by omega) e.symm;omega
   ·right;rw[x,y];intro e;cases e
  ·rcases key j hj with⟨b,y⟩|⟨b,y⟩|⟨b1,b2,y⟩|⟨b,y⟩
   ·right;rw[x,y];intro e;injection e with e;omega
   ·omega
   ·right;rw[x,y];intro e;have:=hlt (j-2) wb (by omega) e.symm;omega
   ·right;rw[x,y];intro e;cases e
  ·rw[x];rcases key j hj with⟨b,y⟩|⟨b,y⟩|⟨b1,b2,y⟩|⟨b,y⟩
   ·right;rw[y];intro e;have:=hlt (i-2) lb (by omega) e;omega
   ·right;rw[y];intro e;have:=hlt (i-2) wb (by omega) e;omega
   ·rw[y];exact hap (i-2) (j-2) (by omega) (by omega) (by omega)
   ·rcases h:(sl (i-2)).ownBlock with _|k
    ·exact .inl rfl
    ·right;rw[y];intro e;cases e
  ·exact .inl x
 ·show some (Value.int .i64 cu)=some (.int .i64 ((cu.toNat:Nat):Int));rw[Int.toNat_of_nonneg hcu]
 ·show([]:List Int).getD k 0=(replicate (m+1) (0:Int)).getD k 0;simp[getD,List.getElem?_replicate];split<;>rfl
 ·show([]:List Int).getD 0 0=(replicate (m+1) (0:Int)).getD m 0;simp[getD]
theorem vM{w:World}{g:Nat}{cs:Array Value}(h:af w g cs 106){o:Oper}{a:Act}(x:Operand)(ho:o.op=.load 106 x)(hx:a.eval x=.pointer (some ⟨g,0,none⟩))(hi:(prog.info? 106).map (·.size)=some cs.size):(execOp a.eval o).run prog w=.ok (.value (.agg cs)) w:=by
 unfold execOp;simp only[ho,hx,Instr.loadAt,Instr.sureAddr,Sem.run_bind,Sem.run_pure,Result.andThen_ok,run_loadVar_row w g 106 106 cs (0,0) _ h underlying106 rfl hi]
theorem CL(iv wv:Value)(zs ws:List Int)(s:Int)(ds:List Int)(p q cu:Int)(w:World)(h:Rd .u8 w iv zs)(hz:zs.length≤1048576)(hbd:∀z∈zs,0≤z∧z<256)(hd:ds.length=12)(hw:Rd .i64 w wv ws)(hwn:ws.length≤1048576):
 Calls prog 26 #[iv,.agg (aB (aD s ds p q)),wv,.int .i64 cu] w fun e w'=>oF w w' zs s ds p q ws cu e:=by
 obtain⟨ia,ic,rfl⟩:=dZ h;obtain⟨wa,wc,rfl⟩:=dZ hw;have HR:=aa (ag h (ag hw (ag hd hbd)));have hRl:=eR s ds p q hd;have HZ:=ae ((aB (aD s ds p q)).size=15) (by rw[fc];exact hRl);obtain⟨TR,hTR⟩:∃TR,TR=de (.slice ia zs.length ic) (aD s ds p q):=⟨_,rfl⟩;have HTR:=aa hTR;have HTs:=ae (TR.size=16) (by rw[hTR];exact mD (.slice ia zs.length ic) _ hRl);obtain⟨RT,hRT⟩:∃RT,RT=aB (aD s ds p q):=⟨_,rfl⟩;have HRT:=aa hRT;have HInR:=ae ((prog.info? 28).map (·.size)=some RT.size) (by rw[hRT,HZ.out];exact dr);have HInT:=ae ((prog.info? 87).map (·.size)=some TR.size) (by rw[HTs.out];exact fU);have HOT:=ae (TR.all (·.oneCell')=true) (by rw[hTR];exact mC _);rw[←hRT];obtain⟨zn,hzn⟩:∃zn,zn=zs.length:=⟨_,rfl⟩;obtain⟨n,hn⟩:∃n,n=ws.length:=⟨_,rfl⟩;have HNN:=aa (ag hzn hn);rw[←hzn] at hz⊢;rw[←hn] at hwn⊢;have HR0:=ae (RT[0]?=some (.int .i64 s)) (by rw[hRT];rfl);obtain⟨W1,hW1⟩:∃W1,W1=(w.alloc (.cells RT 28)).alloc (.cells #[.int .i64 7,.nilIface] 100):=⟨_,rfl⟩;have HW1:=aa hW1;have K1:=ae (af W1 w.heap.size RT 28) (by rw[hW1];exact(af.new _ _ _).alloc _);have C1:=ae (Ck W1 (w.heap.size+1) (w.heap.size+2) 7 true) (by
  rw[hW1];have h:=Ck.fresh (w.alloc (.cells RT 28)) 7 100;rw[World.size_alloc] at h;exact h)
 have B1:=ae (Below w.heap.size w W1) (by rw[hW1];exact(ak.alloc aj _).alloc (by simp) _);have S1:=ae (W1.heap.size=w.heap.size+2) (by rw[hW1];simp);have HOp:=ae (Calls prog 43 #[.slice ia zn ic,.agg RT] W1 fun e w'=>∃ev,e=.returned (.tuple #[.agg TR,ev])∧fa w' W1.heap.size (cV zs s ds p q) ev 7∧Below W1.heap.size W1 w') (by
  rw[hzn,hRT,hTR];exact CH _ zs s ds p q W1 (h.below B1.out) (by omega) hd)
 clear h hw hd hbd hRl hTR hRT hzn hn hW1;have HLq:=ae (((n:Int)==(zn:Int)/512)=kx zs ws) (by
  unfold kx;rw[←HNN.out.1, ←HNN.out.2];by_cases h:n=zn/512
  ·rw[decide_eq_true h];simp;omega
  ·rw[decide_eq_false h];simp;omega)
 obtain⟨i0,hi0,hz0,hz1,hzz2⟩:=info_parts eO;have HX:=ae (0≤s→s≤262144→TR[1]?=some (.int .i64 (s.toNat:Int))∧∀j,j<14→TR[2+j]?=some (.int .i64 ((ds++[p,q]).getD j 0))) (fun h1 h2=>by
  have hX:=fun k hk=>qs (.slice ia zs.length ic) (aD s ds p q) k hk;have hRl:=eR s ds p q HR.out.2.2.1;rw[HTR.out];refine⟨(hX 0 (by omega)).trans (by simp[aD];omega),fun j hj=>?_⟩;have:=hX (j+1) (by omega);rw[show 1+(j+1)=2+j by omega] at this;rw[this];simp[aD,getD])
 have HNu:=ae (0≤s→s≤262144→∀W,Below w.heap.size w W→Calls prog 60 #[.agg TR] W fun e w'=>∃D ev,e=.returned (.tuple #[.agg D,ev])∧D.size=3∧(((ZR zs s ds p q).2=false∧ev=.nilIface∧∃b sl,dF w' W.heap.size b 0 D 106 sl (dG (aM (ZR zs s ds p q).1)))∨((ZR zs s ds p q).2=true∧D.all (·.oneCell')=true∧∃n,bj w' 0 n ev 21))∧Below W.heap.size W w') (fun h1 h2 W hW=>CI ((s.toNat+511)/512) s.toNat zs TR (fun j=>(ds++[p,q]).getD j 0) (.slice ia zs.length ic) W (ZR zs s ds p q) (by rw[HTR.out];exact nJ _ _) (HX.out h1 h2).1 (HX.out h1 h2).2 HTs.out (HR.out.1.below hW) (by rw[←HNN.out.1];exact hz) HR.out.2.2.2 (by omega) rfl rfl);have HCn:=ae (0≤s→s≤262144→∀W,Below w.heap.size w W→Calls prog 61 #[.agg TR] W fun e w'=>∃v ev,e=.returned (.tuple #[v,ev])∧(((ZR zs s ds p q).2=false∧ev=.nilIface∧w'.ownsRow W.heap.size 5 1 v s.toNat ((cR zs s.toNat (aM (ZR zs s ds p q).1)).map (Value.int .u8)))∨((ZR zs s ds p q).2=true∧v=.slice none 0 0∧∃n,bj w' 0 n ev 21))∧Below W.heap.size W w') (fun h1 h2 W hW=>uf ((s.toNat+511)/512) s.toNat zs TR (fun j=>(ds++[p,q]).getD j 0) (.slice ia zs.length ic) W (ZR zs s ds p q) (by rw[HTR.out];exact nJ _ _) (HX.out h1 h2).1 (HX.out h1 h2).2 HTs.out (HR.out.1.below hW) (by rw[←HNN.out.1];exact hz) HR.out.2.2.2 (by omega) rfl rfl);go_enter func26,ntmps26;go_upto_region 2 with fail;rw[←HW1.out];go_upto_region 3 with(first
  |(refine wpList_load_row rfl 28 _ rfl w.heap.size rfl 28 RT (0,0) _ K1.out underlying28 rfl HInR.out ?_)
  |(
   go_at_call 43
   refine HOp.out.mono ?_;rintro e w2 ⟨ev,rfl,f2,b2⟩;have H2:=aa (ag f2 b2);clear f2 b2)
  |(refine wpList_store_row rfl 87 _ _ rfl w2.heap.size TR rfl rfl 87 _ (af.new w2 _ _) HInT.out (by rw[HTs.out];rfl) HOT.out ?_)
  |fail)
 generalize hW3:World.setRow (World.alloc w2 _) w2.heap.size TR=w3;have H3:=ae (Below w2.heap.size w2 w3∧af w3 w2.heap.size TR 87) (by rw[←hW3];exact⟨below_setRow (ak.alloc aj _) aj _,(af.new w2 _ _).row _⟩);clear hW3;have hs2:w.heap.size+2≤w2.heap.size:=by have:=H2.out.2.size;rw[S1.out] at this;exact this
 have hs3:w2.heap.size+1≤w3.heap.size:=H3.out.2.lt;have B13:=ae (Below W1.heap.size W1 w3) (H2.out.2.trans (H3.out.1.mono H2.out.2.size));have B3:=ae (Below w.heap.size w w3) (B1.out.trans (B13.out.mono B1.out.size));have K3:=aa (K1.out.below B13.out K1.out.lt);have C3:=aa (C1.out.below B13.out);have F3:=ae (fa w3 (w.heap.size+2) (cV zs s ds p q) ev 7) ((H2.out.1.below H3.out.1).mono (by rw[S1.out];exact aj));obtain⟨b,hb⟩:∃b,b=w.heap.size+1:=⟨_,rfl⟩;obtain⟨lo,hlo⟩:∃lo,lo=w.heap.size+2:=⟨_,rfl⟩;obtain⟨tb,htb⟩:∃tb,tb=w2.heap.size:=⟨_,rfl⟩;rw[←hlo, ←hb] at C3;rw[←hlo] at F3;rw[←htb] at H3;rw[←hb, ←htb];have hblo:b<lo:=by omega
 have hl3:lo≤w3.heap.size:=by omega
 have hbw:w.heap.size+1≤b:=by omega
 have htb1:lo≤tb:=by omega
 have htb2:tb<w3.heap.size:=by omega
 have HBB:=aa (ag hb (ag hlo htb));clear hb hlo htb;go_upto_region 4 with(first
  |(
   go_at_call 56
   refine(mW b lo _ 7 true (cV zs s ds p q) ev _ C3.out F3.out hblo hl3).mono ?_;rintro e w4 ⟨rfl,ck4,t4⟩;rw[Bool.true_and] at ck4;have H4:=aa (ag ck4 t4);clear ck4 t4)
  |fail)
 have B4:=aa (H4.out.2.under B3.out (by omega) B3.out.size);have hs4:=H4.out.2.1.size;have K4:=ae (af w4 w.heap.size RT 28) ((H4.out.2.1.block _ K3.out.lt (by simp;omega)).trans K3.out);have T4:=ae (af w4 tb TR 87) ((H4.out.2.1.block _ H3.out.2.lt (by simp;omega)).trans H3.out.2);go_upto_region 5 with(first
  |(
   go_at_call 57
   refine(yl _ ws _ (by have:=HR.out.2.1.below B4.out;rw[←HNN.out.2] at this;exact this)).mono ?_;rintro e w5 ⟨ev5,rfl,f5,b5⟩;have H5:=aa (ag f5 b5);clear f5 b5)
  |(
   go_at_call 56
   refine(mW b lo _ 7 (cV zs s ds p q) (dP ws) ev5 _ (H4.out.1.below H5.out.2) (H5.out.1.mono (by omega)) hblo (by have:=H5.out.2.size;omega)).mono ?_;rintro e w6 ⟨rfl,ck6,t6⟩;have H6:=aa (ag ck6 t6);clear ck6 t6)
  |fail)
 have hs5:=H5.out.2.size;have hs6:=H6.out.2.1.size;have B6:=aa (H6.out.2.under (B4.out.trans (H5.out.2.mono B4.out.size)) (by omega) (by have:=B4.out.size;omega));have K6:=ae (af w6 w.heap.size RT 28) ((H6.out.2.1.block _ (K4.out.below H5.out.2 K4.out.lt).lt (by simp;omega)).trans (K4.out.below H5.out.2 K4.out.lt));have T6:=ae (af w6 tb TR 87) ((H6.out.2.1.block _ (T4.out.below H5.out.2 T4.out.lt).lt (by simp;omega)).trans (T4.out.below H5.out.2 T4.out.lt));go_upto_region 6 with(first
  |(
   go_at_call 58
   refine(dV b lo _ 7 _ _ _ H6.out.1 hblo (by omega)).mono ?_;rintro e w7 ⟨rfl,ck7,t7⟩;rw[HLq.out] at ck7;have H7:=aa (ag ck7 t7);clear ck7 t7)
  |fail)
 have hs7:=H7.out.2.1.size;have B7:=aa (H7.out.2.under B6.out (by omega) B6.out.size);have K7:=ae (af w7 w.heap.size RT 28) ((H7.out.2.1.block _ K6.out.lt (by simp;omega)).trans K6.out);have T7:=ae (af w7 tb TR 87) ((H7.out.2.1.block _ T6.out.lt (by simp;omega)).trans T6.out);have c0:w7.cell? ⟨w.heap.size,0,none⟩=some (.int .i64 s):=(K7.out.cell 0).trans HR0.out;by_cases hs0:s=0
 ·have HSz:=ae (jH s ws=true) (by unfold jH;simp[hs0]);go_upto_region 7 with(first
   |(
    go_at_call 58
    refine(dV b lo _ 7 _ _ _ H7.out.1 hblo (by omega)).mono ?_;rintro e w8 ⟨rfl,ck8,t8⟩;have H8:=ae (Ck w8 b lo 7 (cV zs s ds p q&&dP ws&&kx zs ws&&jH s ws)∧dU b w7 w8) (⟨by rw[HSz.out];exact ck8,t8⟩);clear ck8 t8)
   |fail)
  clear c0 hs0;have hs8:=H8.out.2.1.size;have B8:=aa (H8.out.2.under B7.out (by omega) B7.out.size);have T8:=ae (af w8 tb TR 87) ((H8.out.2.1.block _ T7.out.lt (by simp;omega)).trans T7.out);go_upto_region 8 with(first
   |(
    go_at_call 59
    refine(sq cu n _).mono ?_;rintro e w9 ⟨rfl,hw9⟩;rw[hw9];clear hw9)
   |(
    go_at_call 58
    refine(dV b lo _ 7 _ (j8 n cu) _ H8.out.1 hblo (by omega)).mono ?_;rintro e w9 ⟨rfl,ck9,t9⟩;have H9:=ae (Ck w9 b lo 7 (dS zs s ds p q ws cu)∧dU b w8 w9) (⟨by unfold dS;rw[←HNN.out.2];exact ck9,t9⟩);clear ck9 t9)
   |fail)
  have hs9:=H9.out.2.1.size;have B9:=aa (H9.out.2.under B8.out (by omega) B8.out.size);have T9:=ae (af w9 tb TR 87) ((H9.out.2.1.block _ T8.out.lt (by simp;omega)).trans T8.out);obtain⟨ev9,ce,hfe⟩:=H9.out.1.fault;rcases hfe with⟨hok,rfl⟩|⟨hok,k9,f9⟩
  ·have HOk:=aa hok;obtain⟨hsz0,hsz1,hnz,hsn,hcu⟩:=lO hok;rw[←HNN.out.2] at hnz hsn hcu;rw[←HNN.out.1] at hnz;have HFa:=aa (ag hsz0 (ag hsz1 (ag hnz (ag hsn hcu))));have HNm:=aa (HNu.out hsz0 hsz1);have HCo:=aa (HCn.out hsz0 hsz1);clear hok hsz0 hsz1 hnz hsn hcu;go_upto_region 10 with fail;clear ce;go_upto_region 11 with(first
    |(refine wpList_load_row rfl 87 _ rfl tb rfl 87 TR (0,0) _ T9.out underlying87 rfl HInT.out ?_)
    |(
     go_at_call 60
     refine(HNm.out w9 B9.out).mono ?_;rintro e w10 ⟨D,ev10,rfl,hD3,hcase,b10⟩;have HInD:=ae ((prog.info? 106).map (·.size)=some D.size) (by rw[hD3];kernel_rfl);have HOD:=ae (D.all (·.oneCell')=true) (by
      rcases hcase with⟨_,_,b0,sl,hN⟩|⟨_,h,_⟩
      ·rw[Array.all_eq_true];intro i hi;rw[hD3] at hi;have h1:=hN.at_ i hi;rw[Nat.zero_add] at h1;obtain⟨x,y,e⟩:=dM (hN.row i hi);have h2:D[i]=sl i:=(by have:=Array.getElem?_eq_getElem (xs:=D) (i:=i) (by omega);rw[this] at h1;exact Option.some.inj h1);rw[h2,e];rfl
      ·exact h)
     have H10:=aa (ag hD3 (ag hcase b10));clear hD3 hcase b10)
    |(refine wpList_store_row rfl 106 _ _ rfl w10.heap.size D rfl rfl 106 #[.slice none 0 0,.slice none 0 0,.slice none 0 0] (af.new w10 _ _) HInD.out (by rw[H10.out.1];rfl) HOD.out ?_)
    |fail)
   obtain⟨w11,hw11⟩:∃w11,w11=(w10.alloc (.cells #[.slice none 0 0,.slice none 0 0,.slice none 0 0] 106)).setRow w10.heap.size D:=⟨_,rfl⟩;rw[←hw11];have b11:Below w10.heap.size w10 w11:=(by rw[hw11];exact below_setRow (ak.alloc aj _) aj _);have KN:=ae (af w11 w10.heap.size D 106) (by rw[hw11];exact(af.new w10 _ _).row _);have B911:=ae (Below w9.heap.size w9 w11) (H10.out.2.2.trans (b11.mono H10.out.2.2.size));have B11:=ae (Below w.heap.size w w11) (B9.out.trans (B911.out.mono B9.out.size));have T11:=aa (T9.out.below B911.out T9.out.lt);have HB11:=aa b11;have hs10:=H10.out.2.2.size;clear hw11 b11;rcases H10.out.2.1 with⟨hz2,rfl,b0,sl,hN⟩|⟨hz2,_,k10,f10⟩
   ·obtain⟨x0,y0,e0⟩:=dM (hN.row 0 (by omega));obtain⟨x1,y1,e1⟩:=dM (hN.row 1 (by omega));obtain⟨x2,y2,e2⟩:=dM (hN.row 2 (by omega));obtain⟨n0,hn0⟩:∃n0,n0=(dG (aM (ZR zs s ds p q).1) 0).length:=⟨_,rfl⟩;obtain⟨n1,hn1⟩:∃n1,n1=(dG (aM (ZR zs s ds p q).1) 1).length:=⟨_,rfl⟩;obtain⟨n2,hn2⟩:∃n2,n2=(dG (aM (ZR zs s ds p q).1) 2).length:=⟨_,rfl⟩;rw[←hn0] at e0;rw[←hn1] at e1;rw[←hn2] at e2;have hDD:D=#[.slice x0 n0 y0,.slice x1 n1 y1,.slice x2 n2 y2]:=by
     match D,H10.out.1,hN.at_ 0 (by omega),hN.at_ 1 (by omega),hN.at_ 2 (by omega) with
     |⟨[d0,d1,d2]⟩,_,h0,h1,h2=>
      have h0':d0=sl 0:=(by simpa using h0);have h1':d1=sl 1:=(by simpa using h1);have h2':d2=sl 2:=(by simpa using h2);rw[h0',h1',h2',e0,e1,e2]
    have HN:=aa (ag hz2 (ag hN (ag e0 (ag e1 e2))));have HDD:=aa hDD;clear hN e0 e1 e2 hn0 hn1 hn2 hDD;go_upto_region 14 with(first
     |(refine wpList_load_row rfl 87 _ rfl tb rfl 87 TR (0,0) _ T11.out underlying87 rfl HInT.out ?_)
     |(
      go_at_call 61
      refine(HCo.out w11 B11.out).mono ?_;rintro e w12 ⟨cv,ev12,rfl,hcase,b12⟩;rcases hcase with⟨_,rfl,o12⟩|⟨hz3,_⟩;rotate_left
      ·rw[HN.out.1] at hz3;cases hz3
      obtain⟨ca,cc,rfl⟩:=dM o12;have H12:=aa (ag o12 b12);clear o12 b12)
     |fail)
    clear hz2;have hs12:=H12.out.2.size;have B12:=ae (Below w.heap.size w w12) (B11.out.trans (H12.out.2.mono B11.out.size));have KN12:=aa (KN.out.below H12.out.2 KN.out.lt);have hn20:n≤2048:=(by have:=HFa.out.2.2.1;omega);go_upto_region 17 with(first
     |(refine wpList_make_full _ rfl (.tmp 74) (.tmp 74) 29 rfl w12.heap.size 3 i0 (.int .i64 0) 1 underlying29 hi0 hz0 hz1 .i64 .i64 n n n rfl rfl rfl rfl (by rw[hzz2];omega) (by unfold maxLen;omega) aj ?_;intro w13 hown hgrow;rw[iK _ _ rfl] at hown;have H13:=aa (ag hown hgrow);clear hown hgrow)
     |fail)
    have b13:Below w12.heap.size w12 w13:=ak.grown H13.out.2 aj (fun k h=>by cases h);have hs13:=(H13.out.1.lt w12.heap.size rfl).2;have KN13:=aa (KN12.out.below b13 KN12.out.lt);have B13':=aa b13;obtain⟨bs,hbs⟩:∃bs,bs=cR zs s.toNat (aM (ZR zs s ds p q).1):=⟨_,rfl⟩;obtain⟨sn,hsn⟩:∃sn,sn=s.toNat/4:=⟨_,rfl⟩;have hbl:bs.length=s.toNat:=(by have:=H12.out.1.1;rw[←hbs,length_map] at this;omega);have HWo:=aa (vJ _ bs sn w13 (Rd.own (aY (by have:=H12.out.1;rw[←hbs] at this;rw[←hbl] at this;exact this) b13)) (by rw[hbs];exact qV HR.out.2.2.2) (by rw[hbl,hsn]) (by have:=HFa.out;omega));rw[hbl] at HWo;have hsn2:sn=0∨sn=n:=(by have:=HFa.out;omega);have HBs:=aa (ag hbs hsn);clear b13 hbs hsn hbl;go_upto_region 18 with(first
     |(
      go_at_call 62
      refine HWo.out.mono ?_;rintro e w14 ⟨v14,rfl,o14,b14⟩;obtain⟨a14,c14,rfl⟩:=dM o14;have H14:=aa (ag o14 b14);clear o14 b14)
     |(
      refine wpList_copy_splice rfl (.tmp 76) (.tmp 78) 29 29 rfl 3 underlying29 (by rw[hi0];exact congrArg some hz1) (some ⟨w12.heap.size,0,none⟩) a14 n n sn c14 rfl rfl w12.heap.size 0 (replicate n (.int .i64 0)) 3 (pg (aY H13.out.1 H14.out.2)) ((cm bs sn).map (Value.int .i64)) (by rw[length_map,jI];rcases hsn2 with e|e<;>rw[e];exact(Nat.zero_min _).symm;exact(Nat.min_self _).symm) (fun hpos=>⟨rfl,vK H14.out.1 hpos⟩) (by rw[length_map,jI,length_replicate];omega) (fun v hv=>by simp at hv;obtain⟨z,_,rfl⟩:=hv;rfl) w12.heap.size w12 (B13'.out.trans (H14.out.2.mono B13'.out.size)) aj ?_;intro w15 h15 b15;have H15:=aa (ag h15 b15);clear h15 b15)
     |fail)
    have hs14:=H14.out.2.size;have B14:=ae (Below w12.heap.size w12 w14) (B13'.out.trans (H14.out.2.mono B13'.out.size));have hs15:=H15.out.2.size;have B15:=ae (Below w.heap.size w w15) (B12.out.trans (H15.out.2.mono B12.out.size));have KN15:=aa (KN12.out.below H15.out.2 KN12.out.lt);have R15:=ae (w15.ownsRow w12.heap.size 3 1 (.slice (some ⟨w12.heap.size,0,none⟩) n n) n ((dO zs s ds p q n).map (Value.int .i64))) (by
     have h:=H15.out.1.out;have e:splice (replicate n (Value.int .i64 0)) 0 ((cm bs sn).map (Value.int .i64))=(dO zs s ds p q n).map (Value.int .i64):=by
      unfold splice dO;rw[←HBs.out.1, ←HBs.out.2,List.map_append,List.map_replicate,List.take_zero,List.nil_append,Nat.zero_add,length_map,jI,List.drop_replicate]
     rw[e] at h;exact oZ h (by rw[length_map];unfold dO;rw[←HBs.out.1, ←HBs.out.2,List.length_append,jI,length_replicate];omega) (by unfold maxLen;omega) _ aj)
    obtain⟨lb,hlb⟩:∃lb,lb=w12.heap.size:=⟨_,rfl⟩;obtain⟨nb,hnb⟩:∃nb,nb=w10.heap.size:=⟨_,rfl⟩;rw[←hlb, ←hnb];rw[←hnb] at KN15;rw[←hlb] at R15;have hnlb:nb≤lb:=(by have:=B911.out.size;have:=HB11.out.size;omega);have hlb15:lb<w15.heap.size:=(R15.out.lt lb rfl).2;have HLN:=aa (ag hlb hnb);clear hlb hnb;refine cr (fun w'=>af w' nb D 106) KN15.out fun hH=>?_;refine ah 0 (.slice (some ⟨lb,0,none⟩) n n) rfl hH ?_;refine ah 1 (.slice wa n wc) rfl hH ?_;refine ah 3 (.agg D) rfl hH ?_ (iJ ⟨by rfl,fun w' hw'=>vM hw' _ rfl rfl HInD.out⟩);refine ah 4 (.int .i64 cu) rfl hH ?_;refine aG 2 rfl fun K hK=>?_;go_simp;have hcall:=sr (.slice wa n wc) ws w15.drew (by have:=HR.out.2.1.below B15.out;rw[←HNN.out.2] at this;exact this.below (show Below w15.heap.size w15 w15.drew from ak.drew)) (by rw[←HNN.out.2];exact hwn);rw[←HNN.out.2] at hcall;refine hcall.mono ?_;rintro e w16 ⟨rfl,o16,b16⟩;have B16:=ae (Below w15.heap.size w15 w16) ((ak.drew).trans b16);have O16:=ae (w16.ownsRow w15.heap.size 3 1 (.slice (some ⟨w15.heap.size,0,none⟩) n n) n (ws.map (Value.int .i64))) o16;clear b16 o16 hcall;refine hK.out _ _ (KN15.out.below B16.out KN15.out.lt) (fun hH=>?_);clear hK K;try simp only[Act.put,aq,au,av,ay,az,aA]
    obtain⟨FA,hFA⟩:∃FA,FA=(#[.slice (some ⟨lb,0,none⟩) n n,.slice (some ⟨w15.heap.size,0,none⟩) n n,.slice x0 n0 y0,.slice x1 n1 y1,.slice x2 n2 y2,.slice none 0 0,.slice none 0 0,.slice none 0 0,.slice none 0 0,.int .i64 cu]:Array Value):=⟨_,rfl⟩;have HFA:=aa hFA;clear hFA;refine ah 5 (.agg FA) rfl hH ?_ (aH fun w' hw'=>by rw[HFA.out,HDD.out];clear hw';go_simp);refine aG 6 rfl fun K hK=>?_;go_simp;refine hK.out _ _ ((KN15.out.below B16.out KN15.out.lt).alloc _) (fun hH=>?_);clear hK K;try simp only[Act.put,aq,au,av,ay,az,aA]
    refine ah 7 (.pointer (some ⟨w16.heap.size,0,none⟩)) rfl hH ?_;refine ah 8 .nilIface rfl hH ?_;refine bz ?_;clear hH;go_wp2;go_ret2;have b17:Below w15.heap.size w15 (w16.alloc (.cells FA 113)):=B16.out.trans ((ak.alloc aj _).mono B16.out.size);have b10:Below w10.heap.size w10 (w16.alloc (.cells FA 113)):=((HB11.out.trans (H12.out.2.mono HB11.out.size)).trans (H15.out.2.mono (by have:=HB11.out.size;omega))).trans (b17.mono (by have:=HB11.out.size;omega));refine⟨.inr (.inr ⟨HOk.out,HN.out.1,w16.heap.size,rV lb w15.heap.size n sl,rfl,(by have:=B15.out.size;have:=B16.out.size;omega),?_⟩),B15.out.trans (b17.mono B15.out.size)⟩;have hw9:w.heap.size≤w9.heap.size:=B9.out.size;have hlen:(dO zs s ds p q n).length=n:=(by have:=R15.out.1;rw[length_map] at this;omega);have hR:=aY R15.out b17;rw[←hlen] at hR;rw[←HNN.out.2];have hX:=vL (base:=w.heap.size) (bF:=w16.heap.size) (lb:=lb) (wb:=w15.heap.size) (n:=n) (m:=(n+127)/128) (bf:=dO zs s ds p q n) (ws:=ws) (Ls:=eD zs s ds p q) (cu:=cu) (W:=w16.alloc (.cells FA 113)) sl (by rw[HFA.out];exact af.new w16 _ _) ?_ ?_ HN.out.2.2.1 HN.out.2.2.2.1 HN.out.2.2.2.2 (fun l hl=>bZ (aY (HN.out.2.1.row l hl) b10) hw9) HN.out.2.1.apart (fun l k hl hk=>by have h1:=((HN.out.2.1.row l hl).lt k hk).2;have h2:=HLN.out.1;have h3:=HB11.out.size;omega) hlb15 (by have:=HFa.out.2.2.2.2.1;omega)
    ·exact hX
    ·have h:=bZ hR (show w.heap.size≤lb by have:=HLN.out.1;have:=B12.out.size;omega);rw[hlen] at h⊢;exact h
    ·have h:=bZ (aY O16.out (show Below w16.heap.size w16 (w16.alloc (.cells FA 113)) from ak.alloc aj _)) (show w.heap.size≤w15.heap.size from B15.out.size);rw[←HNN.out.2];exact h
   ·obtain⟨t',x',rfl⟩:=f10.iface;have HF10:=aa (ag hz2 (f10.below HB11.out));clear hz2 f10;go_wp2;go_ret2;exact⟨.inr (.inl ⟨HOk.out,HF10.out.1,_,k10,rfl,HF10.out.2⟩),B11.out⟩
  ·obtain⟨t',x',rfl⟩:=f9.iface;have HF9:=aa (ag hok f9);clear hok f9;go_upto_region 9 with fail;have HCe:=aa ce;clear ce;refine cr (fun w'=>w'.cell? ⟨b,1,none⟩=some (.iface t' (.pointer (some x')))) HCe.out fun hH=>?_;refine ah 0 (.pointer (some ⟨b,1,none⟩)) rfl hH ?_;refine ah 1 (.iface t' (.pointer (some x'))) rfl hH ?_ (aH fun w' hw'=>by have hc:=hw';clear hw';go_simp);refine ah 2 (.pointer none) rfl hH ?_;refine ah 3 (.iface t' (.pointer (some x'))) rfl hH ?_;refine bz ?_;clear hH;go_wp2;go_ret2;exact⟨.inl ⟨HF9.out.1,_,k9,rfl,(bj.mono (Nat.zero_le _) HF9.out.2).below (ak.drew)⟩,B9.out.drew⟩
 ·have HSz:=ae ((s==0||s==4*(n:Int))=jH s ws) (by unfold jH;rw[←HNN.out.2];rfl);go_upto_region 7 with(first
   |(
    go_at_call 58
    refine(dV b lo _ 7 _ _ _ H7.out.1 hblo (by omega)).mono ?_;rintro e w8 ⟨rfl,ck8,t8⟩;have H8:=ae (Ck w8 b lo 7 (cV zs s ds p q&&dP ws&&kx zs ws&&jH s ws)∧dU b w7 w8) (⟨by rw[←HSz.out];exact ck8,t8⟩);clear ck8 t8)
   |fail)
  clear c0 hs0;have hs8:=H8.out.2.1.size;have B8:=aa (H8.out.2.under B7.out (by omega) B7.out.size);have T8:=ae (af w8 tb TR 87) ((H8.out.2.1.block _ T7.out.lt (by simp;omega)).trans T7.out);go_upto_region 8 with(first
   |(
    go_at_call 59
    refine(sq cu n _).mono ?_;rintro e w9 ⟨rfl,hw9⟩;rw[hw9];clear hw9)
   |(
    go_at_call 58
    refine(dV b lo _ 7 _ (j8 n cu) _ H8.out.1 hblo (by omega)).mono ?_;rintro e w9 ⟨rfl,ck9,t9⟩;have H9:=ae (Ck w9 b lo 7 (dS zs s ds p q ws cu)∧dU b w8 w9) (⟨by unfold dS;rw[←HNN.out.2];exact ck9,t9⟩);clear ck9 t9)
   |fail)
  have hs9:=H9.out.2.1.size;have B9:=aa (H9.out.2.under B8.out (by omega) B8.out.size);have T9:=ae (af w9 tb TR 87) ((H9.out.2.1.block _ T8.out.lt (by simp;omega)).trans T8.out);obtain⟨ev9,ce,hfe⟩:=H9.out.1.fault;rcases hfe with⟨hok,rfl⟩|⟨hok,k9,f9⟩
  ·have HOk:=aa hok;obtain⟨hsz0,hsz1,hnz,hsn,hcu⟩:=lO hok;rw[←HNN.out.2] at hnz hsn hcu;rw[←HNN.out.1] at hnz;have HFa:=aa (ag hsz0 (ag hsz1 (ag hnz (ag hsn hcu))));have HNm:=aa (HNu.out hsz0 hsz1);have HCo:=aa (HCn.out hsz0 hsz1);clear hok hsz0 hsz1 hnz hsn hcu;go_upto_region 10 with fail;clear ce;go_upto_region 11 with(first
    |(refine wpList_load_row rfl 87 _ rfl tb rfl 87 TR (0,0) _ T9.out underlying87 rfl HInT.out ?_)
    |(
     go_at_call 60
     refine(HNm.out w9 B9.out).mono ?_;rintro e w10 ⟨D,ev10,rfl,hD3,hcase,b10⟩;have HInD:=ae ((prog.info? 106).map (·.size)=some D.size) (by rw[hD3];kernel_rfl);have HOD:=ae (D.all (·.oneCell')=true) (by
      rcases hcase with⟨_,_,b0,sl,hN⟩|⟨_,h,_⟩
      ·rw[Array.all_eq_true];intro i hi;rw[hD3] at hi;have h1:=hN.at_ i hi;rw[Nat.zero_add] at h1;obtain⟨x,y,e⟩:=dM (hN.row i hi);have h2:D[i]=sl i:=(by have:=Array.getElem?_eq_getElem (xs:=D) (i:=i) (by omega);rw[this] at h1;exact Option.some.inj h1);rw[h2,e];rfl
      ·exact h)
     have H10:=aa (ag hD3 (ag hcase b10));clear hD3 hcase b10)
    |(refine wpList_store_row rfl 106 _ _ rfl w10.heap.size D rfl rfl 106 #[.slice none 0 0,.slice none 0 0,.slice none 0 0] (af.new w10 _ _) HInD.out (by rw[H10.out.1];rfl) HOD.out ?_)
    |fail)
   obtain⟨w11,hw11⟩:∃w11,w11=(w10.alloc (.cells #[.slice none 0 0,.slice none 0 0,.slice none 0 0] 106)).setRow w10.heap.size D:=⟨_,rfl⟩;rw[←hw11];have b11:Below w10.heap.size w10 w11:=(by rw[hw11];exact below_setRow (ak.alloc aj _) aj _);have KN:=ae (af w11 w10.heap.size D 106) (by rw[hw11];exact(af.new w10 _ _).row _);have B911:=ae (Below w9.heap.size w9 w11) (H10.out.2.2.trans (b11.mono H10.out.2.2.size));have B11:=ae (Below w.heap.size w w11) (B9.out.trans (B911.out.mono B9.out.size));have T11:=aa (T9.out.below B911.out T9.out.lt);have HB11:=aa b11;have hs10:=H10.out.2.2.size;clear hw11 b11;rcases H10.out.2.1 with⟨hz2,rfl,b0,sl,hN⟩|⟨hz2,_,k10,f10⟩
   ·obtain⟨x0,y0,e0⟩:=dM (hN.row 0 (by omega));obtain⟨x1,y1,e1⟩:=dM (hN.row 1 (by omega));obtain⟨x2,y2,e2⟩:=dM (hN.row 2 (by omega));obtain⟨n0,hn0⟩:∃n0,n0=(dG (aM (ZR zs s ds p q).1) 0).length:=⟨_,rfl⟩;obtain⟨n1,hn1⟩:∃n1,n1=(dG (aM (ZR zs s ds p q).1) 1).length:=⟨_,rfl⟩;obtain⟨n2,hn2⟩:∃n2,n2=(dG (aM (ZR zs s ds p q).1) 2).length:=⟨_,rfl⟩;rw[←hn0] at e0;rw[←hn1] at e1;rw[←hn2] at e2;have hDD:D=#[.slice x0 n0 y0,.slice x1 n1 y1,.slice x2 n2 y2]:=by
     match D,H10.out.1,hN.at_ 0 (by omega),hN.at_ 1 (by omega),hN.at_ 2 (by omega) with
     |⟨[d0,d1,d2]⟩,_,h0,h1,h2=>
      have h0':d0=sl 0:=(by simpa using h0);have h1':d1=sl 1:=(by simpa using h1);have h2':d2=sl 2:=(by simpa using h2);rw[h0',h1',h2',e0,e1,e2]
    have HN:=aa (ag hz2 (ag hN (ag e0 (ag e1 e2))));have HDD:=aa hDD;clear hN e0 e1 e2 hn0 hn1 hn2 hDD;go_upto_region 14 with(first
     |(refine wpList_load_row rfl 87 _ rfl tb rfl 87 TR (0,0) _ T11.out underlying87 rfl HInT.out ?_)
     |(
      go_at_call 61
      refine(HCo.out w11 B11.out).mono ?_;rintro e w12 ⟨cv,ev12,rfl,hcase,b12⟩;rcases hcase with⟨_,rfl,o12⟩|⟨hz3,_⟩;rotate_left
      ·rw[HN.out.1] at hz3;cases hz3
      obtain⟨ca,cc,rfl⟩:=dM o12;have H12:=aa (ag o12 b12);clear o12 b12)
     |fail)
    clear hz2;have hs12:=H12.out.2.size;have B12:=ae (Below w.heap.size w w12) (B11.out.trans (H12.out.2.mono B11.out.size));have KN12:=aa (KN.out.below H12.out.2 KN.out.lt);have hn20:n≤2048:=(by have:=HFa.out.2.2.1;omega);go_upto_region 17 with(first
     |(refine wpList_make_full _ rfl (.tmp 74) (.tmp 74) 29 rfl w12.heap.size 3 i0 (.int .i64 0) 1 underlying29 hi0 hz0 hz1 .i64 .i64 n n n rfl rfl rfl rfl (by rw[hzz2];omega) (by unfold maxLen;omega) aj ?_;intro w13 hown hgrow;rw[iK _ _ rfl] at hown;have H13:=aa (ag hown hgrow);clear hown hgrow)
     |fail)
    have b13:Below w12.heap.size w12 w13:=ak.grown H13.out.2 aj (fun k h=>by cases h);have hs13:=(H13.out.1.lt w12.heap.size rfl).2;have KN13:=aa (KN12.out.below b13 KN12.out.lt);have B13':=aa b13;obtain⟨bs,hbs⟩:∃bs,bs=cR zs s.toNat (aM (ZR zs s ds p q).1):=⟨_,rfl⟩;obtain⟨sn,hsn⟩:∃sn,sn=s.toNat/4:=⟨_,rfl⟩;have hbl:bs.length=s.toNat:=(by have:=H12.out.1.1;rw[←hbs,length_map] at this;omega);have HWo:=aa (vJ _ bs sn w13 (Rd.own (aY (by have:=H12.out.1;rw[←hbs] at this;rw[←hbl] at this;exact this) b13)) (by rw[hbs];exact qV HR.out.2.2.2) (by rw[hbl,hsn]) (by have:=HFa.out;omega));rw[hbl] at HWo;have hsn2:sn=0∨sn=n:=(by have:=HFa.out;omega);have HBs:=aa (ag hbs hsn);clear b13 hbs hsn hbl;go_upto_region 18 with(first
     |(
      go_at_call 62
      refine HWo.out.mono ?_;rintro e w14 ⟨v14,rfl,o14,b14⟩;obtain⟨a14,c14,rfl⟩:=dM o14;have H14:=aa (ag o14 b14);clear o14 b14)
     |(
      refine wpList_copy_splice rfl (.tmp 76) (.tmp 78) 29 29 rfl 3 underlying29 (by rw[hi0];exact congrArg some hz1) (some ⟨w12.heap.size,0,none⟩) a14 n n sn c14 rfl rfl w12.heap.size 0 (replicate n (.int .i64 0)) 3 (pg (aY H13.out.1 H14.out.2)) ((cm bs sn).map (Value.int .i64)) (by rw[length_map,jI];rcases hsn2 with e|e<;>rw[e];exact(Nat.zero_min _).symm;exact(Nat.min_self _).symm) (fun hpos=>⟨rfl,vK H14.out.1 hpos⟩) (by rw[length_map,jI,length_replicate];omega) (fun v hv=>by simp at hv;obtain⟨z,_,rfl⟩:=hv;rfl) w12.heap.size w12 (B13'.out.trans (H14.out.2.mono B13'.out.size)) aj ?_;intro w15 h15 b15;have H15:=aa (ag h15 b15);clear h15 b15)
     |fail)
    have hs14:=H14.out.2.size;have B14:=ae (Below w12.heap.size w12 w14) (B13'.out.trans (H14.out.2.mono B13'.out.size));have hs15:=H15.out.2.size;have B15:=ae (Below w.heap.size w w15) (B12.out.trans (H15.out.2.mono B12.out.size));have KN15:=aa (KN12.out.below H15.out.2 KN12.out.lt);have R15:=ae (w15.ownsRow w12.heap.size 3 1 (.slice (some ⟨w12.heap.size,0,none⟩) n n) n ((dO zs s ds p q n).map (Value.int .i64))) (by
     have h:=H15.out.1.out;have e:splice (replicate n (Value.int .i64 0)) 0 ((cm bs sn).map (Value.int .i64))=(dO zs s ds p q n).map (Value.int .i64):=by
      unfold splice dO;rw[←HBs.out.1, ←HBs.out.2,List.map_append,List.map_replicate,List.take_zero,List.nil_append,Nat.zero_add,length_map,jI,List.drop_replicate]
     rw[e] at h;exact oZ h (by rw[length_map];unfold dO;rw[←HBs.out.1, ←HBs.out.2,List.length_append,jI,length_replicate];omega) (by unfold maxLen;omega) _ aj)
    obtain⟨lb,hlb⟩:∃lb,lb=w12.heap.size:=⟨_,rfl⟩;obtain⟨nb,hnb⟩:∃nb,nb=w10.heap.size:=⟨_,rfl⟩;rw[←hlb, ←hnb];rw[←hnb] at KN15;rw[←hlb] at R15;have hnlb:nb≤lb:=(by have:=B911.out.size;have:=HB11.out.size;omega);have hlb15:lb<w15.heap.size:=(R15.out.lt lb rfl).2;have HLN:=aa (ag hlb hnb);clear hlb hnb;refine cr (fun w'=>af w' nb D 106) KN15.out fun hH=>?_;refine ah 0 (.slice (some ⟨lb,0,none⟩) n n) rfl hH ?_;refine ah 1 (.slice wa n wc) rfl hH ?_;refine ah 3 (.agg D) rfl hH ?_ (iJ ⟨by rfl,fun w' hw'=>vM hw' _ rfl rfl HInD.out⟩);refine ah 4 (.int .i64 cu) rfl hH ?_;refine aG 2 rfl fun K hK=>?_;go_simp;have hcall:=sr (.slice wa n wc) ws w15.drew (by have:=HR.out.2.1.below B15.out;rw[←HNN.out.2] at this;exact this.below (show Below w15.heap.size w15 w15.drew from ak.drew)) (by rw[←HNN.out.2];exact hwn);rw[←HNN.out.2] at hcall;refine hcall.mono ?_;rintro e w16 ⟨rfl,o16,b16⟩;have B16:=ae (Below w15.heap.size w15 w16) ((ak.drew).trans b16);have O16:=ae (w16.ownsRow w15.heap.size 3 1 (.slice (some ⟨w15.heap.size,0,none⟩) n n) n (ws.map (Value.int .i64))) o16;clear b16 o16 hcall;refine hK.out _ _ (KN15.out.below B16.out KN15.out.lt) (fun hH=>?_);clear hK K;try simp only[Act.put,aq,au,av,ay,az,aA]
    obtain⟨FA,hFA⟩:∃FA,FA=(#[.slice (some ⟨lb,0,none⟩) n n,.slice (some ⟨w15.heap.size,0,none⟩) n n,.slice x0 n0 y0,.slice x1 n1 y1,.slice x2 n2 y2,.slice none 0 0,.slice none 0 0,.slice none 0 0,.slice none 0 0,.int .i64 cu]:Array Value):=⟨_,rfl⟩;have HFA:=aa hFA;clear hFA;refine ah 5 (.agg FA) rfl hH ?_ (aH fun w' hw'=>by rw[HFA.out,HDD.out];clear hw';go_simp);refine aG 6 rfl fun K hK=>?_;go_simp;refine hK.out _ _ ((KN15.out.below B16.out KN15.out.lt).alloc _) (fun hH=>?_);clear hK K;try simp only[Act.put,aq,au,av,ay,az,aA]
    refine ah 7 (.pointer (some ⟨w16.heap.size,0,none⟩)) rfl hH ?_;refine ah 8 .nilIface rfl hH ?_;refine bz ?_;clear hH;go_wp2;go_ret2;have b17:Below w15.heap.size w15 (w16.alloc (.cells FA 113)):=B16.out.trans ((ak.alloc aj _).mono B16.out.size);have b10:Below w10.heap.size w10 (w16.alloc (.cells FA 113)):=((HB11.out.trans (H12.out.2.mono HB11.out.size)).trans (H15.out.2.mono (by have:=HB11.out.size;omega))).trans (b17.mono (by have:=HB11.out.size;omega));refine⟨.inr (.inr ⟨HOk.out,HN.out.1,w16.heap.size,rV lb w15.heap.size n sl,rfl,(by have:=B15.out.size;have:=B16.out.size;omega),?_⟩),B15.out.trans (b17.mono B15.out.size)⟩;have hw9:w.heap.size≤w9.heap.size:=B9.out.size;have hlen:(dO zs s ds p q n).length=n:=(by have:=R15.out.1;rw[length_map] at this;omega);have hR:=aY R15.out b17;rw[←hlen] at hR;rw[←HNN.out.2];have hX:=vL (base:=w.heap.size) (bF:=w16.heap.size) (lb:=lb) (wb:=w15.heap.size) (n:=n) (m:=(n+127)/128) (bf:=dO zs s ds p q n) (ws:=ws) (Ls:=eD zs s ds p q) (cu:=cu) (W:=w16.alloc (.cells FA 113)) sl (by rw[HFA.out];exact af.new w16 _ _) ?_ ?_ HN.out.2.2.1 HN.out.2.2.2.1 HN.out.2.2.2.2 (fun l hl=>bZ (aY (HN.out.2.1.row l hl) b10) hw9) HN.out.2.1.apart (fun l k hl hk=>by have h1:=((HN.out.2.1.row l hl).lt k hk).2;have h2:=HLN.out.1;have h3:=HB11.out.size;omega) hlb15 (by have:=HFa.out.2.2.2.2.1;omega)
    ·exact hX
    ·have h:=bZ hR (show w.heap.size≤lb by have:=HLN.out.1;have:=B12.out.size;omega);rw[hlen] at h⊢;exact h
    ·have h:=bZ (aY O16.out (show Below w16.heap.size w16 (w16.alloc (.cells FA 113)) from ak.alloc aj _)) (show w.heap.size≤w15.heap.size from B15.out.size);rw[←HNN.out.2];exact h
   ·obtain⟨t',x',rfl⟩:=f10.iface;have HF10:=aa (ag hz2 (f10.below HB11.out));clear hz2 f10;go_wp2;go_ret2;exact⟨.inr (.inl ⟨HOk.out,HF10.out.1,_,k10,rfl,HF10.out.2⟩),B11.out⟩
  ·obtain⟨t',x',rfl⟩:=f9.iface;have HF9:=aa (ag hok f9);clear hok f9;go_upto_region 9 with fail;have HCe:=aa ce;clear ce;refine cr (fun w'=>w'.cell? ⟨b,1,none⟩=some (.iface t' (.pointer (some x')))) HCe.out fun hH=>?_;refine ah 0 (.pointer (some ⟨b,1,none⟩)) rfl hH ?_;refine ah 1 (.iface t' (.pointer (some x'))) rfl hH ?_ (aH fun w' hw'=>by have hc:=hw';clear hw';go_simp);refine ah 2 (.pointer none) rfl hH ?_;refine ah 3 (.iface t' (.pointer (some x'))) rfl hH ?_;refine bz ?_;clear hH;go_wp2;go_ret2;exact⟨.inl ⟨HF9.out.1,_,k9,rfl,(bj.mono (Nat.zero_le _) HF9.out.2).below (ak.drew)⟩,B9.out.drew⟩
end
end Go.Proofs.YtlimollpocagiaaGreatDoor
