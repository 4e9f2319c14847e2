/- The program's openFlush. -/
import Derived.Test.YtpplnhkpcpieoaaGreatDoorZx25
import Derived.Test.YtpplnhkpcpieoaaGreatDoorZx26
namespace Go.Proofs.YtpplnhkpcpieoaaGreatDoor
open Go.Proofs.Tryz
open _root_.List (getD replicate length_map length_replicate)
set_option linter.all false
set_option maxRecDepth 100000
set_option maxHeartbeats 16000000
section
open Go.RowKit Go.Shelf
attribute [local go_sem] Oper.semAt_some
def mJ(zs ws:List Int):Bool:=decide (ws.length=zs.length/512)
def ld(s:Int)(ws:List Int):Bool:=decide (s=0)||decide (s=4*(ws.length:Int))
def fN(zs:List Int)(s:Int)(ds:List Int)(p q:Int)(ws:List Int)(cu:Int):Bool:=(((fG zs s ds p q&&eD ws)&&mJ zs ws)&&ld s ws)&&l9 ws.length cu
def gm(m:Nat)(Ls:Nat→List Int):List Int:=(List.range m).map (fun k=>(Ls 0).getD k 0)++[(Ls 1).getD 0 0]
theorem uU{m k:Nat}(Ls:Nat→List Int)(h:k<m):(gm m Ls).getD k 0=(Ls 0).getD k 0:=by
 unfold gm;rw[getD,List.getElem?_append_left (by simpa using h)];simp[h]
theorem uV(m:Nat)(Ls:Nat→List Int):(gm m Ls).getD m 0=(Ls 1).getD 0 0:=by
 unfold gm;rw[getD,List.getElem?_append_right (by simp)];simp
def gr(zs:List Int)(s:Int)(ds:List Int)(p q:Int):Nat→List Int:=dR (aY (ZR zs s ds p q).1)
def eS(zs:List Int)(s:Int)(ds:List Int)(p q:Int)(n:Nat):List Int:=dr (dN zs s.toNat (aY (ZR zs s ds p q).1)) (s.toNat/4)++replicate (n-s.toNat/4) 0
def gJ(m:Nat)(ws:List Int)(cu:Int):FD:=⟨ws,replicate (m+1) 0,[],cu.toNat⟩
def rU(w w':World)(zs:List Int)(s:Int)(ds:List Int)(p q:Int)(ws:List Int)(cu:Int)(e:Ending):Prop:=
 (
  (fN zs s ds p q ws cu=false∧∃ev k,e=.returned (.tuple #[.pointer none,ev])∧bU w' 0 k ev 7)∨
  (fN zs s ds p q ws cu=true∧(ZR zs s ds p q).2=true∧∃ev k,e=.returned (.tuple #[.pointer none,ev])∧bU w' 0 k ev 21)∨
  (fN zs s ds p q ws cu=true∧(ZR zs s ds p q).2=false∧∃b R,e=.returned (.tuple #[.pointer (some ⟨b,0,none⟩),.nilIface])∧w.heap.size≤b∧ef w' w.heap.size b ((ws.length+127)/128) (eS zs s ds p q ws.length) (gm ((ws.length+127)/128) (gr zs s ds p q)) (gJ ((ws.length+127)/128) ws cu) R (.slice none 0 0)))∧Below w.heap.size w w'
theorem rW{zs:List Int}{s:Int}{ds:List Int}{p q:Int}{ws:List Int}{cu:Int}(h:fN zs s ds p q ws cu=true):0≤s∧s≤262144∧ws.length=zs.length/512∧(s=0∨s=4*(ws.length:Int))∧(2≤cu∧cu<(ws.length:Int)):=by
 unfold fN fG mJ ld l9 at h;simp only[Bool.and_eq_true,Bool.or_eq_true,decide_eq_true_eq] at h;obtain⟨⟨⟨⟨⟨_,h1⟩,_⟩,h2⟩,h3⟩,h4⟩:=h;exact⟨(qT h1).1,(qT h1).2,h2,h3,h4⟩
theorem lU(bs:List Int)(n:Nat):(dr bs n).length=n:=by unfold dr;simp
theorem zT{w:World}{base n c:Nat}{a:Option Addr}{X:List Value}(h:w.ownsRow base 3 1 (.slice a n c) n X)(hp:0<X.length):∃ad,a=some ad∧∀j v,X[j]?=some v→w.cell? (ad.add j)=some v:=by
 rcases h.2 with⟨e,h0⟩|⟨g,cap,cur,e,_⟩
 ·have:=h.1;omega
 ·injection e with e1 e2 e3;subst e1;exact⟨_,rfl,fun j v hv=>h.cells rfl j v hv⟩
theorem Ig(out:List Int)(o:Nat)(B:List Int):(jU out o B).length=out.length:=by
 unfold jU;simp only[List.length_append,List.length_take,List.length_drop];omega
theorem Ih{out:List Int}{o:Nat}{B:List Int}{z:Int}(h:z∈jU out o B):z∈out∨z∈B:=by
 unfold jU at h;rcases List.mem_append.1 h with h|h
 ·rcases List.mem_append.1 h with h|h
  ·exact .inl (List.mem_of_mem_take h)
  ·exact .inr (List.mem_of_mem_take h)
 ·exact .inl (List.mem_of_mem_drop h)
theorem uW(zs:List Int)(hbd:∀z∈zs,0≤z∧z<256):∀(L:List HG) (out:List Int),(∀z∈out,0≤z∧z<256)→(L.foldl (gD (bQ zs)) out).length=out.length∧∀z∈L.foldl (gD (bQ zs)) out,0≤z∧z<256
 |[],out,h=>⟨rfl,h⟩
 |g::L,out,h=>by
  have h1:(gD (bQ zs) out g).length=out.length∧∀z∈gD (bQ zs) out g,0≤z∧z<256:=by
   unfold gD;split
   ·refine⟨Ig _ _ _,fun z hz=>?_⟩;rcases Ih hz with hz|hz
    ·exact h z hz
    ·exact hbd z (List.mem_of_mem_drop (List.mem_of_mem_take hz))
   ·exact⟨rfl,h⟩
  obtain⟨a,b⟩:=uW zs hbd L (gD (bQ zs) out g) h1.2;exact⟨a.trans h1.1,b⟩
theorem uX{zs:List Int}(hbd:∀z∈zs,0≤z∧z<256){sz:Nat}{L:List TX}:∀z∈dN zs sz L,0≤z∧z<256:=by
 unfold dN;exact(uW zs hbd _ _ (fun z hz=>by rw[List.eq_of_mem_replicate hz];omega)).2
def rV(lb wb n:Nat)(sl:Nat→Value):Nat→Value:=fun j=>if j=0 then .slice (some ⟨lb,0,none⟩) n n else if j=1 then .slice (some ⟨wb,0,none⟩) n n else if j<5 then sl (j-2) else .slice none 0 0
def lV(bf ws:List Int)(Ls:Nat→List Int):Nat→List Int:=fun j=>if j=0 then bf else if j=1 then ws else if j<5 then Ls (j-2) else []
theorem zU{W:World}{base bF lb wb n m:Nat}{bf ws:List Int}{Ls:Nat→List Int}{cu:Int}{d0 d1 d2:Value}(sl:Nat→Value)
 (PI:af W bF #[.slice (some ⟨lb,0,none⟩) n n,.slice (some ⟨wb,0,none⟩) n n,d0,d1,d2,.slice none 0 0,.slice none 0 0,.slice none 0 0,.slice none 0 0,.int .i64 cu] 185)
 (hbf:W.ownsRow base 3 1 (.slice (some ⟨lb,0,none⟩) n n) bf.length (bf.map (Value.int .i64)))
 (hws:W.ownsRow base 3 1 (.slice (some ⟨wb,0,none⟩) n n) ws.length (ws.map (Value.int .i64)))
 (h0:sl 0=d0) (h1:sl 1=d1) (h2:sl 2=d2)
 (hr:∀l,l<3→W.ownsRow base 3 1 (sl l) (Ls l).length ((Ls l).map (Value.int .i64)))
 (hap:∀l m,l<3→m<3→l≠m→(sl l).ownBlock=none∨(sl l).ownBlock≠(sl m).ownBlock)
 (hlt:∀l k,l<3→(sl l).ownBlock=some k→k<lb) (hlw:lb<wb) (NG:0≤cu):
 ef W base bF m bf (gm m Ls) (gJ m ws cu) (rV lb wb n sl) (.slice none 0 0):=by
 refine⟨_,lV bf ws Ls,⟨PI,fun j hj=>?_,fun j hj=>?_,fun i j hi hj hne=>?_,rfl,World.ownsRow_nil _ _ _ _,?_⟩,⟨rfl,rfl,fun k hk=>?_,by simp[lV],?_,by simp[lV],fun k hk=>(uU Ls hk).symm,(uV m Ls).symm,rfl⟩⟩
 ·subst h0 h1 h2;rcases(show j=0∨j=1∨j=2∨j=3∨j=4∨j=5∨j=6∨j=7 by omega) with rfl|rfl|rfl|rfl|rfl|rfl|rfl|rfl<;>rfl
 ·rcases(show j=0∨j=1∨(2≤j∧j<5)∨5≤j by omega) with rfl|rfl|h|h
  ·exact hbf
  ·exact hws
  ·have e1:rV lb wb n sl j=sl (j-2):=(by unfold rV;rw[if_neg (by omega),if_neg (by omega),if_pos h.2]);have e2:lV bf ws Ls j=Ls (j-2):=(by unfold lV;rw[if_neg (by omega),if_neg (by omega),if_pos h.2]);rw[e1,e2];exact hr (j-2) (by omega)
  ·have e1:rV lb wb n sl j=.slice none 0 0:=(by unfold rV;rw[if_neg (by omega),if_neg (by omega),if_neg (by omega)]);have e2:lV bf ws Ls j=[]:=(by unfold lV;rw[if_neg (by omega),if_neg (by omega),if_neg (by omega)]);rw[e1,e2];exact World.ownsRow_nil _ _ _ _
 ·have key:∀i,i<8→(i=0∧(rV lb wb n sl i).ownBlock=some lb)∨(i=1∧(rV lb wb n sl i).ownBlock=some wb)∨(2≤i∧i<5∧rV lb wb n sl i=sl (i-2))∨(5≤i∧(rV lb wb n sl i).ownBlock=none):=by
   intro i hi;rcases(show i=0∨i=1∨(2≤i∧i<5)∨5≤i by omega) with rfl|rfl|h|h
   ·exact .inl ⟨rfl,rfl⟩
   ·exact .inr (.inl ⟨rfl,rfl⟩)
   ·exact .inr (.inr (.inl ⟨h.1,h.2,by unfold rV;rw[if_neg (by omega),if_neg (by omega),if_pos h.2]⟩))
   ·exact .inr (.inr (.inr ⟨h,by unfold rV;rw[if_neg (by omega),if_neg (by omega),if_neg (by omega)];rfl⟩))
  rcases key i hi with⟨a,x⟩|⟨a,x⟩|⟨a1,a2,x⟩|⟨a,x⟩
  ·rcases key j hj with⟨b,y⟩|⟨b,y⟩|⟨b1,b2,y⟩|⟨b,y⟩
   ·omega
   ·right;rw[x,y];intro e;injection e with e;omega
   ·right;rw[x,y];intro e;have:=hlt (j-2) lb (by omega) e.symm;omega
   ·right;rw[x,y];intro e;cases e
  ·rcases key j hj with⟨b,y⟩|⟨b,y⟩|⟨b1,b2,y⟩|⟨b,y⟩
   ·right;rw[x,y];intro e;injection e with e;omega
   ·omega
   ·right;rw[x,y];intro e;have:=hlt (j-2) wb (by omega) e.symm;omega
   ·right;rw[x,y];intro e;cases e
  ·rw[x];rcases key j hj with⟨b,y⟩|⟨b,y⟩|⟨b1,b2,y⟩|⟨b,y⟩
   ·right;rw[y];intro e;have:=hlt (i-2) lb (by omega) e;omega
   ·right;rw[y];intro e;have:=hlt (i-2) wb (by omega) e;omega
   ·rw[y];exact hap (i-2) (j-2) (by omega) (by omega) (by omega)
   ·rcases h:(sl (i-2)).ownBlock with _|k
    ·exact .inl rfl
    ·right;rw[y];intro e;cases e
  ·exact .inl x
 ·show some (Value.int .i64 cu)=some (.int .i64 ((cu.toNat:Nat):Int));rw[Int.toNat_of_nonneg NG]
 ·show([]:List Int).getD k 0=(replicate (m+1) (0:Int)).getD k 0;simp[getD,List.getElem?_replicate];split<;>rfl
 ·show([]:List Int).getD 0 0=(replicate (m+1) (0:Int)).getD m 0;simp[getD]
theorem zV{w:World}{g:Nat}{cs:Array Value}(h:af w g cs 110){o:Oper}{a:Act}(x:Operand)(ho:o.op=.load 110 x)(hx:a.eval x=.pointer (some ⟨g,0,none⟩))(hi:(prog.info? 110).map (·.size)=some cs.size):(execOp a.eval o).run prog w=.ok (.value (.agg cs)) w:=by
 unfold execOp;simp only[ho,hx,Instr.loadAt,Instr.sureAddr,Sem.run_bind,Sem.run_pure,Result.andThen_ok,run_loadVar_row w g 110 110 cs (0,0) _ h underlying110 rfl hi]
theorem Ii(iv wv:Value)(zs ws:List Int)(s:Int)(ds:List Int)(p q cu:Int)(w:World)(h:Rd .u8 w iv zs)(hz:zs.length≤1048576)(hbd:∀z∈zs,0≤z∧z<256)(hd:ds.length=12)(hw:Rd .i64 w wv ws)(hwn:ws.length≤1048576):
 Calls prog 55 #[iv,.agg (an (aD s ds p q)),wv,.int .i64 cu] w fun e w'=>rU w w' zs s ds p q ws cu e:=by
 obtain⟨ia,ic,rfl⟩:=eY h;obtain⟨wa,wc,rfl⟩:=eY hw;have HR:=aa (ai h (ai hw (ai hd hbd)));have hRl:=dw s ds p q hd;have HZ:=ae ((an (aD s ds p q)).size=15) (by rw[ct];exact hRl);obtain⟨TR,hTR⟩:∃TR,TR=fT (.slice ia zs.length ic) (aD s ds p q):=⟨_,rfl⟩;have Uv:=aa hTR;have OV:=ae (TR.size=16) (by rw[hTR];exact uf (.slice ia zs.length ic) _ hRl);obtain⟨RT,Ov⟩:∃RT,RT=an (aD s ds p q):=⟨_,rfl⟩;have Zi:=aa Ov;have Nt:=ae ((prog.info? 31).map (·.size)=some RT.size) (by rw[Ov,HZ.out];exact dV);have Pb:=ae ((prog.info? 108).map (·.size)=some TR.size) (by rw[OV.out];exact jm);have HOT:=ae (TR.all (·.oneCell')=true) (by rw[hTR];exact ue _);rw[←Ov];obtain⟨zn,hzn⟩:∃zn,zn=zs.length:=⟨_,rfl⟩;obtain⟨n,hn⟩:∃n,n=ws.length:=⟨_,rfl⟩;have jq:=aa (ai hzn hn);rw[←hzn] at hz⊢;rw[←hn] at hwn⊢;have VM:=ae (RT[0]?=some (.int .i64 s)) (by rw[Ov];rfl);obtain⟨W1,hW1⟩:∃W1,W1=(w.alloc (.cells RT 31)).alloc (.cells #[.int .i64 7,.nilIface] 93):=⟨_,rfl⟩;have HW1:=aa hW1;have K1:=ae (af W1 w.heap.size RT 31) (by rw[hW1];exact(af.new _ _ _).alloc _);have C1:=ae (Ck W1 (w.heap.size+1) (w.heap.size+2) 7 true) (by
  rw[hW1];have h:=Ck.fresh (w.alloc (.cells RT 31)) 7 93;rw[World.size_alloc] at h;exact h)
 have B1:=ae (Below w.heap.size w W1) (by rw[hW1];exact(ak.alloc aj _).alloc (by simp) _);have S1:=ae (W1.heap.size=w.heap.size+2) (by rw[hW1];simp);have Uw:=ae (Calls prog 87 #[.slice ia zn ic,.agg RT] W1 fun e w'=>∃ev,e=.returned (.tuple #[.agg TR,ev])∧fB w' W1.heap.size (fG zs s ds p q) ev 7∧Below W1.heap.size W1 w') (by
  rw[hzn,Ov,hTR];exact Ic _ zs s ds p q W1 (h.below B1.out) (by omega) hd)
 clear h hw hd hbd hRl hTR Ov hzn hn hW1;have Zj:=ae (((n:Int)==(zn:Int)/512)=mJ zs ws) (by
  unfold mJ;rw[←jq.out.1, ←jq.out.2];by_cases h:n=zn/512
  ·rw[decide_eq_true h];simp;omega
  ·rw[decide_eq_false h];simp;omega)
 obtain⟨i0,hi0,hz0,hz1,VN⟩:=info_parts fX;have HX:=ae (0≤s→s≤262144→TR[1]?=some (.int .i64 (s.toNat:Int))∧∀j,j<14→TR[2+j]?=some (.int .i64 ((ds++[p,q]).getD j 0))) (fun h1 h2=>by
  have hX:=fun k hk=>Fc (.slice ia zs.length ic) (aD s ds p q) k hk;have hRl:=dw s ds p q HR.out.2.2.1;rw[Uv.out];refine⟨(hX 0 (by omega)).trans (by simp[aD];omega),fun j hj=>?_⟩;have:=hX (j+1) (by omega);rw[show 1+(j+1)=2+j by omega] at this;rw[this];simp[aD,getD])
 have HNu:=ae (0≤s→s≤262144→∀W,Below w.heap.size w W→Calls prog 88 #[.agg TR] W fun e w'=>∃D ev,e=.returned (.tuple #[.agg D,ev])∧D.size=3∧(((ZR zs s ds p q).2=false∧ev=.nilIface∧∃b sl,dP w' W.heap.size b 0 D 110 sl (dR (aY (ZR zs s ds p q).1)))∨((ZR zs s ds p q).2=true∧D.all (·.oneCell')=true∧∃n,bU w' 0 n ev 21))∧Below W.heap.size W w') (fun h1 h2 W hW=>Ie ((s.toNat+511)/512) s.toNat zs TR (fun j=>(ds++[p,q]).getD j 0) (.slice ia zs.length ic) W (ZR zs s ds p q) (by rw[Uv.out];exact yt _ _) (HX.out h1 h2).1 (HX.out h1 h2).2 OV.out (HR.out.1.below hW) (by rw[←jq.out.1];exact hz) HR.out.2.2.2 (by omega) rfl rfl);have Tf:=ae (0≤s→s≤262144→∀W,Below w.heap.size w W→Calls prog 97 #[.agg TR] W fun e w'=>∃v ev,e=.returned (.tuple #[v,ev])∧(((ZR zs s ds p q).2=false∧ev=.nilIface∧w'.ownsRow W.heap.size 5 1 v s.toNat ((dN zs s.toNat (aY (ZR zs s ds p q).1)).map (Value.int .u8)))∨((ZR zs s ds p q).2=true∧v=.slice none 0 0∧∃n,bU w' 0 n ev 21))∧Below W.heap.size W w') (fun h1 h2 W hW=>E3 ((s.toNat+511)/512) s.toNat zs TR (fun j=>(ds++[p,q]).getD j 0) (.slice ia zs.length ic) W (ZR zs s ds p q) (by rw[Uv.out];exact yt _ _) (HX.out h1 h2).1 (HX.out h1 h2).2 OV.out (HR.out.1.below hW) (by rw[←jq.out.1];exact hz) HR.out.2.2.2 (by omega) rfl rfl);go_enter func55,ntmps55;go_upto_region 2 with fail;rw[←HW1.out];go_upto_region 3 with(first
  |(refine wpList_load_row rfl 31 _ rfl w.heap.size rfl 31 RT (0,0) _ K1.out underlying31 rfl Nt.out ?_)
  |(
   go_at_call 87
   refine Uw.out.mono ?_;rintro e w2 ⟨ev,rfl,f2,b2⟩;have H2:=aa (ai f2 b2);clear f2 b2)
  |(refine wpList_store_row rfl 108 _ _ rfl w2.heap.size TR rfl rfl 108 _ (af.new w2 _ _) Pb.out (by rw[OV.out];rfl) HOT.out ?_)
  |fail)
 generalize hW3:World.setRow (World.alloc w2 _) w2.heap.size TR=w3;have H3:=ae (Below w2.heap.size w2 w3∧af w3 w2.heap.size TR 108) (by rw[←hW3];exact⟨below_setRow (ak.alloc aj _) aj _,(af.new w2 _ _).row _⟩);clear hW3;have hs2:w.heap.size+2≤w2.heap.size:=by have:=H2.out.2.size;rw[S1.out] at this;exact this
 have hs3:w2.heap.size+1≤w3.heap.size:=H3.out.2.lt;have Ux:=ae (Below W1.heap.size W1 w3) (H2.out.2.trans (H3.out.1.mono H2.out.2.size));have B3:=ae (Below w.heap.size w w3) (B1.out.trans (Ux.out.mono B1.out.size));have K3:=aa (K1.out.below Ux.out K1.out.lt);have C3:=aa (C1.out.below Ux.out);have F3:=ae (fB w3 (w.heap.size+2) (fG zs s ds p q) ev 7) ((H2.out.1.below H3.out.1).mono (by rw[S1.out];exact aj));obtain⟨b,hb⟩:∃b,b=w.heap.size+1:=⟨_,rfl⟩;obtain⟨lo,hlo⟩:∃lo,lo=w.heap.size+2:=⟨_,rfl⟩;obtain⟨tb,htb⟩:∃tb,tb=w2.heap.size:=⟨_,rfl⟩;rw[←hlo, ←hb] at C3;rw[←hlo] at F3;rw[←htb] at H3;rw[←hb, ←htb];have Pc:b<lo:=by omega
 have hl3:lo≤w3.heap.size:=by omega
 have hbw:w.heap.size+1≤b:=by omega
 have htb1:lo≤tb:=by omega
 have htb2:tb<w3.heap.size:=by omega
 have Pu:=aa (ai hb (ai hlo htb));clear hb hlo htb;go_upto_region 4 with(first
  |(
   go_at_call 82
   refine(qp b lo _ 7 true (fG zs s ds p q) ev _ C3.out F3.out Pc hl3).mono ?_;rintro e w4 ⟨rfl,Rw,t4⟩;rw[Bool.true_and] at Rw;have H4:=aa (ai Rw t4);clear Rw t4)
  |fail)
 have B4:=aa (H4.out.2.under B3.out (by omega) B3.out.size);have hs4:=H4.out.2.1.size;have K4:=ae (af w4 w.heap.size RT 31) ((H4.out.2.1.block _ K3.out.lt (by simp;omega)).trans K3.out);have T4:=ae (af w4 tb TR 108) ((H4.out.2.1.block _ H3.out.2.lt (by simp;omega)).trans H3.out.2);go_upto_region 5 with(first
  |(
   go_at_call 96
   refine(Dm _ ws _ (by have:=HR.out.2.1.below B4.out;rw[←jq.out.2] at this;exact this)).mono ?_;rintro e w5 ⟨ev5,rfl,f5,b5⟩;have H5:=aa (ai f5 b5);clear f5 b5)
  |(
   go_at_call 82
   refine(qp b lo _ 7 (fG zs s ds p q) (eD ws) ev5 _ (H4.out.1.below H5.out.2) (H5.out.1.mono (by omega)) Pc (by have:=H5.out.2.size;omega)).mono ?_;rintro e w6 ⟨rfl,ck6,t6⟩;have H6:=aa (ai ck6 t6);clear ck6 t6)
  |fail)
 have hs5:=H5.out.2.size;have hs6:=H6.out.2.1.size;have B6:=aa (H6.out.2.under (B4.out.trans (H5.out.2.mono B4.out.size)) (by omega) (by have:=B4.out.size;omega));have K6:=ae (af w6 w.heap.size RT 31) ((H6.out.2.1.block _ (K4.out.below H5.out.2 K4.out.lt).lt (by simp;omega)).trans (K4.out.below H5.out.2 K4.out.lt));have T6:=ae (af w6 tb TR 108) ((H6.out.2.1.block _ (T4.out.below H5.out.2 T4.out.lt).lt (by simp;omega)).trans (T4.out.below H5.out.2 T4.out.lt));go_upto_region 6 with(first
  |(
   go_at_call 46
   refine(eB b lo _ 7 _ _ _ H6.out.1 Pc (by omega)).mono ?_;rintro e w7 ⟨rfl,Zk,t7⟩;rw[Zj.out] at Zk;have H7:=aa (ai Zk t7);clear Zk t7)
  |fail)
 have hs7:=H7.out.2.1.size;have B7:=aa (H7.out.2.under B6.out (by omega) B6.out.size);have K7:=ae (af w7 w.heap.size RT 31) ((H7.out.2.1.block _ K6.out.lt (by simp;omega)).trans K6.out);have T7:=ae (af w7 tb TR 108) ((H7.out.2.1.block _ T6.out.lt (by simp;omega)).trans T6.out);have c0:w7.cell? ⟨w.heap.size,0,none⟩=some (.int .i64 s):=(K7.out.cell 0).trans VM.out;by_cases hs0:s=0
 ·have O0:=ae (ld s ws=true) (by unfold ld;simp[hs0]);go_upto_region 7 with(first
   |(
    go_at_call 46
    refine(eB b lo _ 7 _ _ _ H7.out.1 Pc (by omega)).mono ?_;rintro e w8 ⟨rfl,VO,t8⟩;have H8:=ae (Ck w8 b lo 7 (fG zs s ds p q&&eD ws&&mJ zs ws&&ld s ws)∧eI b w7 w8) (⟨by rw[O0.out];exact VO,t8⟩);clear VO t8)
   |fail)
  clear c0 hs0;have RV:=H8.out.2.1.size;have B8:=aa (H8.out.2.under B7.out (by omega) B7.out.size);have T8:=ae (af w8 tb TR 108) ((H8.out.2.1.block _ T7.out.lt (by simp;omega)).trans T7.out);go_upto_region 8 with(first
   |(
    go_at_call 51
    refine(wM cu n _).mono ?_;rintro e w9 ⟨rfl,eJ⟩;rw[eJ];clear eJ)
   |(
    go_at_call 46
    refine(eB b lo _ 7 _ (l9 n cu) _ H8.out.1 Pc (by omega)).mono ?_;rintro e w9 ⟨rfl,VP,t9⟩;have H9:=ae (Ck w9 b lo 7 (fN zs s ds p q ws cu)∧eI b w8 w9) (⟨by unfold fN;rw[←jq.out.2];exact VP,t9⟩);clear VP t9)
   |fail)
  have hs9:=H9.out.2.1.size;have B9:=aa (H9.out.2.under B8.out (by omega) B8.out.size);have T9:=ae (af w9 tb TR 108) ((H9.out.2.1.block _ T8.out.lt (by simp;omega)).trans T8.out);obtain⟨ev9,ce,hfe⟩:=H9.out.1.fault;rcases hfe with⟨hok,rfl⟩|⟨hok,k9,f9⟩
  ·have NA:=aa hok;obtain⟨hsz0,hsz1,hnz,hsn,NG⟩:=rW hok;rw[←jq.out.2] at hnz hsn NG;rw[←jq.out.1] at hnz;have QG:=aa (ai hsz0 (ai hsz1 (ai hnz (ai hsn NG))));have Zl:=aa (HNu.out hsz0 hsz1);have TG:=aa (Tf.out hsz0 hsz1);clear hok hsz0 hsz1 hnz hsn NG;go_upto_region 10 with fail;clear ce;go_upto_region 11 with(first
    |(refine wpList_load_row rfl 108 _ rfl tb rfl 108 TR (0,0) _ T9.out underlying108 rfl Pb.out ?_)
    |(
     go_at_call 88
     refine(Zl.out w9 B9.out).mono ?_;rintro e je ⟨D,Zm,rfl,hD3,hcase,b10⟩;have QH:=ae ((prog.info? 110).map (·.size)=some D.size) (by rw[hD3];kernel_rfl);have Zn:=ae (D.all (·.oneCell')=true) (by
      rcases hcase with⟨_,_,b0,sl,hN⟩|⟨_,h,_⟩
      ·rw[Array.all_eq_true];intro i hi;rw[hD3] at hi;have h1:=hN.at_ i hi;rw[Nat.zero_add] at h1;obtain⟨x,y,e⟩:=bO (hN.row i hi);have h2:D[i]=sl i:=(by have:=Array.getElem?_eq_getElem (xs:=D) (i:=i) (by omega);rw[this] at h1;exact Option.some.inj h1);rw[h2,e];rfl
      ·exact h)
     have Og:=aa (ai hD3 (ai hcase b10));clear hD3 hcase b10)
    |(refine wpList_store_row rfl 110 _ _ rfl je.heap.size D rfl rfl 110 #[.slice none 0 0,.slice none 0 0,.slice none 0 0] (af.new je _ _) QH.out (by rw[Og.out.1];rfl) Zn.out ?_)
    |fail)
   obtain⟨NX,Ol⟩:∃NX,NX=(je.alloc (.cells #[.slice none 0 0,.slice none 0 0,.slice none 0 0] 110)).setRow je.heap.size D:=⟨_,rfl⟩;rw[←Ol];have b11:Below je.heap.size je NX:=(by rw[Ol];exact below_setRow (ak.alloc aj _) aj _);have KN:=ae (af NX je.heap.size D 110) (by rw[Ol];exact(af.new je _ _).row _);have Pd:=ae (Below w9.heap.size w9 NX) (Og.out.2.2.trans (b11.mono Og.out.2.2.size));have B11:=ae (Below w.heap.size w NX) (B9.out.trans (Pd.out.mono B9.out.size));have Zo:=aa (T9.out.below Pd.out T9.out.lt);have Nu:=aa b11;have Zp:=Og.out.2.2.size;clear Ol b11;rcases Og.out.2.1 with⟨hz2,rfl,b0,sl,hN⟩|⟨hz2,_,k10,f10⟩
   ·obtain⟨x0,y0,e0⟩:=bO (hN.row 0 (by omega));obtain⟨x1,y1,e1⟩:=bO (hN.row 1 (by omega));obtain⟨x2,y2,e2⟩:=bO (hN.row 2 (by omega));obtain⟨n0,hn0⟩:∃n0,n0=(dR (aY (ZR zs s ds p q).1) 0).length:=⟨_,rfl⟩;obtain⟨n1,hn1⟩:∃n1,n1=(dR (aY (ZR zs s ds p q).1) 1).length:=⟨_,rfl⟩;obtain⟨n2,hn2⟩:∃n2,n2=(dR (aY (ZR zs s ds p q).1) 2).length:=⟨_,rfl⟩;rw[←hn0] at e0;rw[←hn1] at e1;rw[←hn2] at e2;have VQ:D=#[.slice x0 n0 y0,.slice x1 n1 y1,.slice x2 n2 y2]:=by
     match D,Og.out.1,hN.at_ 0 (by omega),hN.at_ 1 (by omega),hN.at_ 2 (by omega) with
     |⟨[d0,d1,d2]⟩,_,h0,h1,h2=>
      have h0':d0=sl 0:=(by simpa using h0);have h1':d1=sl 1:=(by simpa using h1);have h2':d2=sl 2:=(by simpa using h2);rw[h0',h1',h2',e0,e1,e2]
    have HN:=aa (ai hz2 (ai hN (ai e0 (ai e1 e2))));have VR:=aa VQ;clear hN e0 e1 e2 hn0 hn1 hn2 VQ;go_upto_region 14 with(first
     |(refine wpList_load_row rfl 108 _ rfl tb rfl 108 TR (0,0) _ Zo.out underlying108 rfl Pb.out ?_)
     |(
      go_at_call 97
      refine(TG.out NX B11.out).mono ?_;rintro e nx ⟨cv,Zq,rfl,hcase,b12⟩;rcases hcase with⟨_,rfl,N8⟩|⟨hz3,_⟩;rotate_left
      ·rw[HN.out.1] at hz3;cases hz3
      obtain⟨ca,cc,rfl⟩:=bO N8;have PN:=aa (ai N8 b12);clear N8 b12)
     |fail)
    clear hz2;have Zr:=PN.out.2.size;have Pp:=ae (Below w.heap.size w nx) (B11.out.trans (PN.out.2.mono B11.out.size));have Om:=aa (KN.out.below PN.out.2 KN.out.lt);have Zs:n≤2048:=(by have:=QG.out.2.2.1;omega);go_upto_region 17 with(first
     |(refine wpList_make_full _ rfl (.tmp 74) (.tmp 74) 45 rfl nx.heap.size 3 i0 (.int .i64 0) 1 underlying45 hi0 hz0 hz1 .i64 .i64 n n n rfl rfl rfl rfl (by rw[VN];omega) (by unfold maxLen;omega) aj ?_;intro OI hown hgrow;rw[iJ _ _ rfl] at hown;have Rl:=aa (ai hown hgrow);clear hown hgrow)
     |fail)
    have b13:Below nx.heap.size nx OI:=ak.grown Rl.out.2 aj (fun k h=>by cases h);have Zt:=(Rl.out.1.lt nx.heap.size rfl).2;have Zu:=aa (Om.out.below b13 Om.out.lt);have On:=aa b13;obtain⟨bs,hbs⟩:∃bs,bs=dN zs s.toNat (aY (ZR zs s ds p q).1):=⟨_,rfl⟩;obtain⟨sn,hsn⟩:∃sn,sn=s.toNat/4:=⟨_,rfl⟩;have hbl:bs.length=s.toNat:=(by have:=PN.out.1.1;rw[←hbs,length_map] at this;omega);have VU:=aa (zS _ bs sn OI (Rd.own (bz (by have:=PN.out.1;rw[←hbs] at this;rw[←hbl] at this;exact this) b13)) (by rw[hbs];exact uX HR.out.2.2.2) (by rw[hbl,hsn]) (by have:=QG.out;omega));rw[hbl] at VU;have TH:sn=0∨sn=n:=(by have:=QG.out;omega);have Qc:=aa (ai hbs hsn);clear b13 hbs hsn hbl;go_upto_region 18 with(first
     |(
      go_at_call 98
      refine VU.out.mono ?_;rintro e XB ⟨v14,rfl,Rm,b14⟩;obtain⟨Ow,c14,rfl⟩:=bO Rm;have QI:=aa (ai Rm b14);clear Rm b14)
     |(
      refine wpList_copy_splice rfl (.tmp 76) (.tmp 78) 45 45 rfl 3 underlying45 (by rw[hi0];exact congrArg some hz1) (some ⟨nx.heap.size,0,none⟩) Ow n n sn c14 rfl rfl nx.heap.size 0 (replicate n (.int .i64 0)) 3 (sW (bz Rl.out.1 QI.out.2)) ((dr bs sn).map (Value.int .i64)) (by rw[length_map,lU];rcases TH with e|e<;>rw[e];exact(Nat.zero_min _).symm;exact(Nat.min_self _).symm) (fun hpos=>⟨rfl,zT QI.out.1 hpos⟩) (by rw[length_map,lU,length_replicate];omega) (fun v hv=>by simp at hv;obtain⟨z,_,rfl⟩:=hv;rfl) nx.heap.size nx (On.out.trans (QI.out.2.mono On.out.size)) aj ?_;intro j8 VV b15;have QJ:=aa (ai VV b15);clear VV b15)
     |fail)
    have Zv:=QI.out.2.size;have XC:=ae (Below nx.heap.size nx XB) (On.out.trans (QI.out.2.mono On.out.size));have Zw:=QJ.out.2.size;have PO:=ae (Below w.heap.size w j8) (Pp.out.trans (QJ.out.2.mono Pp.out.size));have NH:=aa (Om.out.below QJ.out.2 Om.out.lt);have RW:=ae (j8.ownsRow nx.heap.size 3 1 (.slice (some ⟨nx.heap.size,0,none⟩) n n) n ((eS zs s ds p q n).map (Value.int .i64))) (by
     have h:=QJ.out.1.out;have e:splice (replicate n (Value.int .i64 0)) 0 ((dr bs sn).map (Value.int .i64))=(eS zs s ds p q n).map (Value.int .i64):=by
      unfold splice eS;rw[←Qc.out.1, ←Qc.out.2,List.map_append,List.map_replicate,List.take_zero,List.nil_append,Nat.zero_add,length_map,lU,List.drop_replicate]
     rw[e] at h;exact sV h (by rw[length_map];unfold eS;rw[←Qc.out.1, ←Qc.out.2,List.length_append,lU,length_replicate];omega) (by unfold maxLen;omega) _ aj)
    obtain⟨lb,hlb⟩:∃lb,lb=nx.heap.size:=⟨_,rfl⟩;obtain⟨nb,hnb⟩:∃nb,nb=je.heap.size:=⟨_,rfl⟩;rw[←hlb, ←hnb];rw[←hnb] at NH;rw[←hlb] at RW;have Zx:nb≤lb:=(by have:=Pd.out.size;have:=Nu.out.size;omega);have QK:lb<j8.heap.size:=(RW.out.lt lb rfl).2;have Qj:=aa (ai hlb hnb);clear hlb hnb;refine bg (fun w'=>af w' nb D 110) NH.out fun hH=>?_;refine ah 0 (.slice (some ⟨lb,0,none⟩) n n) rfl hH ?_;refine ah 1 (.slice wa n wc) rfl hH ?_;refine ah 3 (.agg D) rfl hH ?_ (kK ⟨by rfl,fun w' hw'=>zV hw' _ rfl rfl QH.out⟩);refine ah 4 (.int .i64 cu) rfl hH ?_;refine aG 2 rfl fun K hK=>?_;go_simp;have hcall:=wN (.slice wa n wc) ws j8.drew (by have:=HR.out.2.1.below PO.out;rw[←jq.out.2] at this;exact this.below (show Below j8.heap.size j8 j8.drew from ak.drew)) (by rw[←jq.out.2];exact hwn);rw[←jq.out.2] at hcall;refine hcall.mono ?_;rintro e w16 ⟨rfl,o16,b16⟩;have PR:=ae (Below j8.heap.size j8 w16) ((ak.drew).trans b16);have Zy:=ae (w16.ownsRow j8.heap.size 3 1 (.slice (some ⟨j8.heap.size,0,none⟩) n n) n (ws.map (Value.int .i64))) o16;clear b16 o16 hcall;refine hK.out _ _ (NH.out.below PR.out NH.out.lt) (fun hH=>?_);clear hK K;try simp only[Act.put,av,ay,az,aA,aB,aC]
    obtain⟨FA,VW⟩:∃FA,FA=(#[.slice (some ⟨lb,0,none⟩) n n,.slice (some ⟨j8.heap.size,0,none⟩) n n,.slice x0 n0 y0,.slice x1 n1 y1,.slice x2 n2 y2,.slice none 0 0,.slice none 0 0,.slice none 0 0,.slice none 0 0,.int .i64 cu]:Array Value):=⟨_,rfl⟩;have VX:=aa VW;clear VW;refine ah 5 (.agg FA) rfl hH ?_ (aH fun w' hw'=>by rw[VX.out,VR.out];clear hw';go_simp);refine aG 6 rfl fun K hK=>?_;go_simp;refine hK.out _ _ ((NH.out.below PR.out NH.out.lt).alloc _) (fun hH=>?_);clear hK K;try simp only[Act.put,av,ay,az,aA,aB,aC]
    refine ah 7 (.pointer (some ⟨w16.heap.size,0,none⟩)) rfl hH ?_;refine ah 8 .nilIface rfl hH ?_;refine aV ?_;clear hH;go_wp2;go_ret2;have b17:Below j8.heap.size j8 (w16.alloc (.cells FA 185)):=PR.out.trans ((ak.alloc aj _).mono PR.out.size);have b10:Below je.heap.size je (w16.alloc (.cells FA 185)):=((Nu.out.trans (PN.out.2.mono Nu.out.size)).trans (QJ.out.2.mono (by have:=Nu.out.size;omega))).trans (b17.mono (by have:=Nu.out.size;omega));refine⟨.inr (.inr ⟨NA.out,HN.out.1,w16.heap.size,rV lb j8.heap.size n sl,rfl,(by have:=PO.out.size;have:=PR.out.size;omega),?_⟩),PO.out.trans (b17.mono PO.out.size)⟩;have eJ:w.heap.size≤w9.heap.size:=B9.out.size;have hlen:(eS zs s ds p q n).length=n:=(by have:=RW.out.1;rw[length_map] at this;omega);have hR:=bz RW.out b17;rw[←hlen] at hR;rw[←jq.out.2];have hX:=zU (base:=w.heap.size) (bF:=w16.heap.size) (lb:=lb) (wb:=j8.heap.size) (n:=n) (m:=(n+127)/128) (bf:=eS zs s ds p q n) (ws:=ws) (Ls:=gr zs s ds p q) (cu:=cu) (W:=w16.alloc (.cells FA 185)) sl (by rw[VX.out];exact af.new w16 _ _) ?_ ?_ HN.out.2.2.1 HN.out.2.2.2.1 HN.out.2.2.2.2 (fun l hl=>cH (bz (HN.out.2.1.row l hl) b10) eJ) HN.out.2.1.apart (fun l k hl hk=>by have h1:=((HN.out.2.1.row l hl).lt k hk).2;have h2:=Qj.out.1;have h3:=Nu.out.size;omega) QK (by have:=QG.out.2.2.2.2.1;omega)
    ·exact hX
    ·have h:=cH hR (show w.heap.size≤lb by have:=Qj.out.1;have:=Pp.out.size;omega);rw[hlen] at h⊢;exact h
    ·have h:=cH (bz Zy.out (show Below w16.heap.size w16 (w16.alloc (.cells FA 185)) from ak.alloc aj _)) (show w.heap.size≤j8.heap.size from PO.out.size);rw[←jq.out.2];exact h
   ·obtain⟨t',x',rfl⟩:=f10.iface;have QL:=aa (ai hz2 (f10.below Nu.out));clear hz2 f10;go_wp2;go_ret2;exact⟨.inr (.inl ⟨NA.out,QL.out.1,_,k10,rfl,QL.out.2⟩),B11.out⟩
  ·obtain⟨t',x',rfl⟩:=f9.iface;have VY:=aa (ai hok f9);clear hok f9;go_upto_region 9 with fail;have Uy:=aa ce;clear ce;refine bg (fun w'=>w'.cell? ⟨b,1,none⟩=some (.iface t' (.pointer (some x')))) Uy.out fun hH=>?_;refine ah 0 (.pointer (some ⟨b,1,none⟩)) rfl hH ?_;refine ah 1 (.iface t' (.pointer (some x'))) rfl hH ?_ (aH fun w' hw'=>by have hc:=hw';clear hw';go_simp);refine ah 2 (.pointer none) rfl hH ?_;refine ah 3 (.iface t' (.pointer (some x'))) rfl hH ?_;refine aV ?_;clear hH;go_wp2;go_ret2;exact⟨.inl ⟨VY.out.1,_,k9,rfl,(bU.mono (Nat.zero_le _) VY.out.2).below (ak.drew)⟩,B9.out.drew⟩
 ·have O0:=ae ((s==0||s==4*(n:Int))=ld s ws) (by unfold ld;rw[←jq.out.2];rfl);go_upto_region 7 with(first
   |(
    go_at_call 46
    refine(eB b lo _ 7 _ _ _ H7.out.1 Pc (by omega)).mono ?_;rintro e w8 ⟨rfl,VO,t8⟩;have H8:=ae (Ck w8 b lo 7 (fG zs s ds p q&&eD ws&&mJ zs ws&&ld s ws)∧eI b w7 w8) (⟨by rw[←O0.out];exact VO,t8⟩);clear VO t8)
   |fail)
  clear c0 hs0;have RV:=H8.out.2.1.size;have B8:=aa (H8.out.2.under B7.out (by omega) B7.out.size);have T8:=ae (af w8 tb TR 108) ((H8.out.2.1.block _ T7.out.lt (by simp;omega)).trans T7.out);go_upto_region 8 with(first
   |(
    go_at_call 51
    refine(wM cu n _).mono ?_;rintro e w9 ⟨rfl,eJ⟩;rw[eJ];clear eJ)
   |(
    go_at_call 46
    refine(eB b lo _ 7 _ (l9 n cu) _ H8.out.1 Pc (by omega)).mono ?_;rintro e w9 ⟨rfl,VP,t9⟩;have H9:=ae (Ck w9 b lo 7 (fN zs s ds p q ws cu)∧eI b w8 w9) (⟨by unfold fN;rw[←jq.out.2];exact VP,t9⟩);clear VP t9)
   |fail)
  have hs9:=H9.out.2.1.size;have B9:=aa (H9.out.2.under B8.out (by omega) B8.out.size);have T9:=ae (af w9 tb TR 108) ((H9.out.2.1.block _ T8.out.lt (by simp;omega)).trans T8.out);obtain⟨ev9,ce,hfe⟩:=H9.out.1.fault;rcases hfe with⟨hok,rfl⟩|⟨hok,k9,f9⟩
  ·have NA:=aa hok;obtain⟨hsz0,hsz1,hnz,hsn,NG⟩:=rW hok;rw[←jq.out.2] at hnz hsn NG;rw[←jq.out.1] at hnz;have QG:=aa (ai hsz0 (ai hsz1 (ai hnz (ai hsn NG))));have Zl:=aa (HNu.out hsz0 hsz1);have TG:=aa (Tf.out hsz0 hsz1);clear hok hsz0 hsz1 hnz hsn NG;go_upto_region 10 with fail;clear ce;go_upto_region 11 with(first
    |(refine wpList_load_row rfl 108 _ rfl tb rfl 108 TR (0,0) _ T9.out underlying108 rfl Pb.out ?_)
    |(
     go_at_call 88
     refine(Zl.out w9 B9.out).mono ?_;rintro e je ⟨D,Zm,rfl,hD3,hcase,b10⟩;have QH:=ae ((prog.info? 110).map (·.size)=some D.size) (by rw[hD3];kernel_rfl);have Zn:=ae (D.all (·.oneCell')=true) (by
      rcases hcase with⟨_,_,b0,sl,hN⟩|⟨_,h,_⟩
      ·rw[Array.all_eq_true];intro i hi;rw[hD3] at hi;have h1:=hN.at_ i hi;rw[Nat.zero_add] at h1;obtain⟨x,y,e⟩:=bO (hN.row i hi);have h2:D[i]=sl i:=(by have:=Array.getElem?_eq_getElem (xs:=D) (i:=i) (by omega);rw[this] at h1;exact Option.some.inj h1);rw[h2,e];rfl
      ·exact h)
     have Og:=aa (ai hD3 (ai hcase b10));clear hD3 hcase b10)
    |(refine wpList_store_row rfl 110 _ _ rfl je.heap.size D rfl rfl 110 #[.slice none 0 0,.slice none 0 0,.slice none 0 0] (af.new je _ _) QH.out (by rw[Og.out.1];rfl) Zn.out ?_)
    |fail)
   obtain⟨NX,Ol⟩:∃NX,NX=(je.alloc (.cells #[.slice none 0 0,.slice none 0 0,.slice none 0 0] 110)).setRow je.heap.size D:=⟨_,rfl⟩;rw[←Ol];have b11:Below je.heap.size je NX:=(by rw[Ol];exact below_setRow (ak.alloc aj _) aj _);have KN:=ae (af NX je.heap.size D 110) (by rw[Ol];exact(af.new je _ _).row _);have Pd:=ae (Below w9.heap.size w9 NX) (Og.out.2.2.trans (b11.mono Og.out.2.2.size));have B11:=ae (Below w.heap.size w NX) (B9.out.trans (Pd.out.mono B9.out.size));have Zo:=aa (T9.out.below Pd.out T9.out.lt);have Nu:=aa b11;have Zp:=Og.out.2.2.size;clear Ol b11;rcases Og.out.2.1 with⟨hz2,rfl,b0,sl,hN⟩|⟨hz2,_,k10,f10⟩
   ·obtain⟨x0,y0,e0⟩:=bO (hN.row 0 (by omega));obtain⟨x1,y1,e1⟩:=bO (hN.row 1 (by omega));obtain⟨x2,y2,e2⟩:=bO (hN.row 2 (by omega));obtain⟨n0,hn0⟩:∃n0,n0=(dR (aY (ZR zs s ds p q).1) 0).length:=⟨_,rfl⟩;obtain⟨n1,hn1⟩:∃n1,n1=(dR (aY (ZR zs s ds p q).1) 1).length:=⟨_,rfl⟩;obtain⟨n2,hn2⟩:∃n2,n2=(dR (aY (ZR zs s ds p q).1) 2).length:=⟨_,rfl⟩;rw[←hn0] at e0;rw[←hn1] at e1;rw[←hn2] at e2;have VQ:D=#[.slice x0 n0 y0,.slice x1 n1 y1,.slice x2 n2 y2]:=by
     match D,Og.out.1,hN.at_ 0 (by omega),hN.at_ 1 (by omega),hN.at_ 2 (by omega) with
     |⟨[d0,d1,d2]⟩,_,h0,h1,h2=>
      have h0':d0=sl 0:=(by simpa using h0);have h1':d1=sl 1:=(by simpa using h1);have h2':d2=sl 2:=(by simpa using h2);rw[h0',h1',h2',e0,e1,e2]
    have HN:=aa (ai hz2 (ai hN (ai e0 (ai e1 e2))));have VR:=aa VQ;clear hN e0 e1 e2 hn0 hn1 hn2 VQ;go_upto_region 14 with(first
     |(refine wpList_load_row rfl 108 _ rfl tb rfl 108 TR (0,0) _ Zo.out underlying108 rfl Pb.out ?_)
     |(
      go_at_call 97
      refine(TG.out NX B11.out).mono ?_;rintro e nx ⟨cv,Zq,rfl,hcase,b12⟩;rcases hcase with⟨_,rfl,N8⟩|⟨hz3,_⟩;rotate_left
      ·rw[HN.out.1] at hz3;cases hz3
      obtain⟨ca,cc,rfl⟩:=bO N8;have PN:=aa (ai N8 b12);clear N8 b12)
     |fail)
    clear hz2;have Zr:=PN.out.2.size;have Pp:=ae (Below w.heap.size w nx) (B11.out.trans (PN.out.2.mono B11.out.size));have Om:=aa (KN.out.below PN.out.2 KN.out.lt);have Zs:n≤2048:=(by have:=QG.out.2.2.1;omega);go_upto_region 17 with(first
     |(refine wpList_make_full _ rfl (.tmp 74) (.tmp 74) 45 rfl nx.heap.size 3 i0 (.int .i64 0) 1 underlying45 hi0 hz0 hz1 .i64 .i64 n n n rfl rfl rfl rfl (by rw[VN];omega) (by unfold maxLen;omega) aj ?_;intro OI hown hgrow;rw[iJ _ _ rfl] at hown;have Rl:=aa (ai hown hgrow);clear hown hgrow)
     |fail)
    have b13:Below nx.heap.size nx OI:=ak.grown Rl.out.2 aj (fun k h=>by cases h);have Zt:=(Rl.out.1.lt nx.heap.size rfl).2;have Zu:=aa (Om.out.below b13 Om.out.lt);have On:=aa b13;obtain⟨bs,hbs⟩:∃bs,bs=dN zs s.toNat (aY (ZR zs s ds p q).1):=⟨_,rfl⟩;obtain⟨sn,hsn⟩:∃sn,sn=s.toNat/4:=⟨_,rfl⟩;have hbl:bs.length=s.toNat:=(by have:=PN.out.1.1;rw[←hbs,length_map] at this;omega);have VU:=aa (zS _ bs sn OI (Rd.own (bz (by have:=PN.out.1;rw[←hbs] at this;rw[←hbl] at this;exact this) b13)) (by rw[hbs];exact uX HR.out.2.2.2) (by rw[hbl,hsn]) (by have:=QG.out;omega));rw[hbl] at VU;have TH:sn=0∨sn=n:=(by have:=QG.out;omega);have Qc:=aa (ai hbs hsn);clear b13 hbs hsn hbl;go_upto_region 18 with(first
     |(
      go_at_call 98
      refine VU.out.mono ?_;rintro e XB ⟨v14,rfl,Rm,b14⟩;obtain⟨Ow,c14,rfl⟩:=bO Rm;have QI:=aa (ai Rm b14);clear Rm b14)
     |(
      refine wpList_copy_splice rfl (.tmp 76) (.tmp 78) 45 45 rfl 3 underlying45 (by rw[hi0];exact congrArg some hz1) (some ⟨nx.heap.size,0,none⟩) Ow n n sn c14 rfl rfl nx.heap.size 0 (replicate n (.int .i64 0)) 3 (sW (bz Rl.out.1 QI.out.2)) ((dr bs sn).map (Value.int .i64)) (by rw[length_map,lU];rcases TH with e|e<;>rw[e];exact(Nat.zero_min _).symm;exact(Nat.min_self _).symm) (fun hpos=>⟨rfl,zT QI.out.1 hpos⟩) (by rw[length_map,lU,length_replicate];omega) (fun v hv=>by simp at hv;obtain⟨z,_,rfl⟩:=hv;rfl) nx.heap.size nx (On.out.trans (QI.out.2.mono On.out.size)) aj ?_;intro j8 VV b15;have QJ:=aa (ai VV b15);clear VV b15)
     |fail)
    have Zv:=QI.out.2.size;have XC:=ae (Below nx.heap.size nx XB) (On.out.trans (QI.out.2.mono On.out.size));have Zw:=QJ.out.2.size;have PO:=ae (Below w.heap.size w j8) (Pp.out.trans (QJ.out.2.mono Pp.out.size));have NH:=aa (Om.out.below QJ.out.2 Om.out.lt);have RW:=ae (j8.ownsRow nx.heap.size 3 1 (.slice (some ⟨nx.heap.size,0,none⟩) n n) n ((eS zs s ds p q n).map (Value.int .i64))) (by
     have h:=QJ.out.1.out;have e:splice (replicate n (Value.int .i64 0)) 0 ((dr bs sn).map (Value.int .i64))=(eS zs s ds p q n).map (Value.int .i64):=by
      unfold splice eS;rw[←Qc.out.1, ←Qc.out.2,List.map_append,List.map_replicate,List.take_zero,List.nil_append,Nat.zero_add,length_map,lU,List.drop_replicate]
     rw[e] at h;exact sV h (by rw[length_map];unfold eS;rw[←Qc.out.1, ←Qc.out.2,List.length_append,lU,length_replicate];omega) (by unfold maxLen;omega) _ aj)
    obtain⟨lb,hlb⟩:∃lb,lb=nx.heap.size:=⟨_,rfl⟩;obtain⟨nb,hnb⟩:∃nb,nb=je.heap.size:=⟨_,rfl⟩;rw[←hlb, ←hnb];rw[←hnb] at NH;rw[←hlb] at RW;have Zx:nb≤lb:=(by have:=Pd.out.size;have:=Nu.out.size;omega);have QK:lb<j8.heap.size:=(RW.out.lt lb rfl).2;have Qj:=aa (ai hlb hnb);clear hlb hnb;refine bg (fun w'=>af w' nb D 110) NH.out fun hH=>?_;refine ah 0 (.slice (some ⟨lb,0,none⟩) n n) rfl hH ?_;refine ah 1 (.slice wa n wc) rfl hH ?_;refine ah 3 (.agg D) rfl hH ?_ (kK ⟨by rfl,fun w' hw'=>zV hw' _ rfl rfl QH.out⟩);refine ah 4 (.int .i64 cu) rfl hH ?_;refine aG 2 rfl fun K hK=>?_;go_simp;have hcall:=wN (.slice wa n wc) ws j8.drew (by have:=HR.out.2.1.below PO.out;rw[←jq.out.2] at this;exact this.below (show Below j8.heap.size j8 j8.drew from ak.drew)) (by rw[←jq.out.2];exact hwn);rw[←jq.out.2] at hcall;refine hcall.mono ?_;rintro e w16 ⟨rfl,o16,b16⟩;have PR:=ae (Below j8.heap.size j8 w16) ((ak.drew).trans b16);have Zy:=ae (w16.ownsRow j8.heap.size 3 1 (.slice (some ⟨j8.heap.size,0,none⟩) n n) n (ws.map (Value.int .i64))) o16;clear b16 o16 hcall;refine hK.out _ _ (NH.out.below PR.out NH.out.lt) (fun hH=>?_);clear hK K;try simp only[Act.put,av,ay,az,aA,aB,aC]
    obtain⟨FA,VW⟩:∃FA,FA=(#[.slice (some ⟨lb,0,none⟩) n n,.slice (some ⟨j8.heap.size,0,none⟩) n n,.slice x0 n0 y0,.slice x1 n1 y1,.slice x2 n2 y2,.slice none 0 0,.slice none 0 0,.slice none 0 0,.slice none 0 0,.int .i64 cu]:Array Value):=⟨_,rfl⟩;have VX:=aa VW;clear VW;refine ah 5 (.agg FA) rfl hH ?_ (aH fun w' hw'=>by rw[VX.out,VR.out];clear hw';go_simp);refine aG 6 rfl fun K hK=>?_;go_simp;refine hK.out _ _ ((NH.out.below PR.out NH.out.lt).alloc _) (fun hH=>?_);clear hK K;try simp only[Act.put,av,ay,az,aA,aB,aC]
    refine ah 7 (.pointer (some ⟨w16.heap.size,0,none⟩)) rfl hH ?_;refine ah 8 .nilIface rfl hH ?_;refine aV ?_;clear hH;go_wp2;go_ret2;have b17:Below j8.heap.size j8 (w16.alloc (.cells FA 185)):=PR.out.trans ((ak.alloc aj _).mono PR.out.size);have b10:Below je.heap.size je (w16.alloc (.cells FA 185)):=((Nu.out.trans (PN.out.2.mono Nu.out.size)).trans (QJ.out.2.mono (by have:=Nu.out.size;omega))).trans (b17.mono (by have:=Nu.out.size;omega));refine⟨.inr (.inr ⟨NA.out,HN.out.1,w16.heap.size,rV lb j8.heap.size n sl,rfl,(by have:=PO.out.size;have:=PR.out.size;omega),?_⟩),PO.out.trans (b17.mono PO.out.size)⟩;have eJ:w.heap.size≤w9.heap.size:=B9.out.size;have hlen:(eS zs s ds p q n).length=n:=(by have:=RW.out.1;rw[length_map] at this;omega);have hR:=bz RW.out b17;rw[←hlen] at hR;rw[←jq.out.2];have hX:=zU (base:=w.heap.size) (bF:=w16.heap.size) (lb:=lb) (wb:=j8.heap.size) (n:=n) (m:=(n+127)/128) (bf:=eS zs s ds p q n) (ws:=ws) (Ls:=gr zs s ds p q) (cu:=cu) (W:=w16.alloc (.cells FA 185)) sl (by rw[VX.out];exact af.new w16 _ _) ?_ ?_ HN.out.2.2.1 HN.out.2.2.2.1 HN.out.2.2.2.2 (fun l hl=>cH (bz (HN.out.2.1.row l hl) b10) eJ) HN.out.2.1.apart (fun l k hl hk=>by have h1:=((HN.out.2.1.row l hl).lt k hk).2;have h2:=Qj.out.1;have h3:=Nu.out.size;omega) QK (by have:=QG.out.2.2.2.2.1;omega)
    ·exact hX
    ·have h:=cH hR (show w.heap.size≤lb by have:=Qj.out.1;have:=Pp.out.size;omega);rw[hlen] at h⊢;exact h
    ·have h:=cH (bz Zy.out (show Below w16.heap.size w16 (w16.alloc (.cells FA 185)) from ak.alloc aj _)) (show w.heap.size≤j8.heap.size from PO.out.size);rw[←jq.out.2];exact h
   ·obtain⟨t',x',rfl⟩:=f10.iface;have QL:=aa (ai hz2 (f10.below Nu.out));clear hz2 f10;go_wp2;go_ret2;exact⟨.inr (.inl ⟨NA.out,QL.out.1,_,k10,rfl,QL.out.2⟩),B11.out⟩
  ·obtain⟨t',x',rfl⟩:=f9.iface;have VY:=aa (ai hok f9);clear hok f9;go_upto_region 9 with fail;have Uy:=aa ce;clear ce;refine bg (fun w'=>w'.cell? ⟨b,1,none⟩=some (.iface t' (.pointer (some x')))) Uy.out fun hH=>?_;refine ah 0 (.pointer (some ⟨b,1,none⟩)) rfl hH ?_;refine ah 1 (.iface t' (.pointer (some x'))) rfl hH ?_ (aH fun w' hw'=>by have hc:=hw';clear hw';go_simp);refine ah 2 (.pointer none) rfl hH ?_;refine ah 3 (.iface t' (.pointer (some x'))) rfl hH ?_;refine aV ?_;clear hH;go_wp2;go_ret2;exact⟨.inl ⟨VY.out.1,_,k9,rfl,(bU.mono (Nat.zero_le _) VY.out.2).below (ak.drew)⟩,B9.out.drew⟩
end
end Go.Proofs.YtpplnhkpcpieoaaGreatDoor
