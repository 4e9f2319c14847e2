/- The program's renew over an empty tree, walked -/
import Derived.Test.YtpplnhkpcpieoaaGreatDoorZx44
namespace Go.Proofs.YtpplnhkpcpieoaaGreatDoor
open Go.Proofs.Tryz
open _root_.List (length_map replicate)
set_option linter.all false
set_option maxRecDepth 100000
set_option maxHeartbeats 16000000
section
open Go.RowKit Go.Shelf
theorem vT:(prog.info? 31).map (·.size)=some 15:=by kernel_rfl
theorem Mi:(prog.info? 110).map (·.size)=some 3:=by kernel_rfl
theorem Mj(W0 W:World)(b:Nat)(iv cv:Value)(a0:Option Addr)(q0:Nat)(a1:Option Addr)(q1:Nat)(a2:Option Addr)(q2:Nat)(fv:Value)(st:Option (List Int))(hl:Below W0.heap.size W0 W)(hlo:W0.heap.size≤b)
 (hb:af W b (sk iv cv (.slice a0 0 q0) (.slice a1 0 q1) (.slice a2 0 q2) fv) 112)
 (hr:W.ownsRow W0.heap.size 3 1 (.slice a0 0 q0) 0 []∧W.ownsRow W0.heap.size 3 1 (.slice a1 0 q1) 0 []∧W.ownsRow W0.heap.size 3 1 (.slice a2 0 q2) 0 [])
 (ha:∀l m,l<3→m<3→l≠m→((fun l=>if l=0 then Value.slice a0 0 q0 else if l=1 then .slice a1 0 q1 else .slice a2 0 q2) l).ownBlock=none∨((fun l=>if l=0 then Value.slice a0 0 q0 else if l=1 then .slice a1 0 q1 else .slice a2 0 q2) l).ownBlock≠((fun l=>if l=0 then Value.slice a0 0 q0 else if l=1 then .slice a1 0 q1 else .slice a2 0 q2) m).ownBlock)
 (hs:ko W0 W fv st):dW W0 W b (ij iv cv st):=by
 refine⟨_,fun l=>if l=0 then Value.slice a0 0 q0 else if l=1 then .slice a1 0 q1 else .slice a2 0 q2,fun _=>.slice none 0 0,fv,.slice none 0 0,[],⟨rfl,rfl,fun i hi=>?_,rfl,⟨hb,fun l hl=>?_,fun l hl=>?_,ha⟩,⟨hb,fun l hl=>?_,fun l hl=>World.ownsRow_nil _ _ _ _,fun l m _ _ _=>.inl rfl⟩,fun l m _ _=>?_,rfl,hs,rfl,aZ.nil _ _ _ _,rfl,hlo,hl⟩⟩
 ·match i,hi with
  |0,_=>rfl
  |1,_=>rfl
  |2,_=>rfl
  |3,_=>rfl
  |4,_=>rfl
  |5,_=>rfl
  |6,_=>rfl
  |7,_=>rfl
  |8,_=>rfl
  |9,_=>rfl
  |10,_=>rfl
  |11,_=>rfl
  |12,_=>rfl
  |13,_=>rfl
  |14,_=>rfl
  |15,_=>rfl
  |k+16,h=>exact absurd h (by omega)
 ·match l,hl with
  |0,_=>rfl
  |1,_=>rfl
  |2,_=>rfl
 ·match l,hl with
  |0,_=>exact hr.1
  |1,_=>exact hr.2.1
  |2,_=>exact hr.2.2
 ·match l,hl with
  |0,_=>rfl
  |1,_=>rfl
  |2,_=>rfl
 ·generalize ((fun l=>if l=0 then Value.slice a0 0 q0 else if l=1 then .slice a1 0 q1 else .slice a2 0 q2) l).ownBlock=o;cases o with
  |none=>exact .inl rfl
  |some g=>exact .inr (by intro e;cases e)
theorem Mk(W0 w:World)(ia ca:Option Addr)(il ic n cc cnt ff:Nat)(lb:Array Value)(zs cs:List Int)(st:Option (List Int))
 (hb:Below W0.heap.size W0 w) (hi:Rd .u8 W0 (.slice ia il ic) zs) (hz:zs.length≤1048576) (hbd:∀z∈zs,0≤z∧z<256) (hsz:dx zs.length=true) (hR:Rd .u8 W0 (.slice ca n cc) cs) (hn:n=cs.length) (hcs:cs.length≤262144) (hcnt:cnt=(n+511)/512) (hg:eM W0) (hsup:ko W0 w (.func (.func ff) #[] lb) st)
 (hsh:(lz (.slice ia il ic) (.slice ca n cc) st cs cnt).sh=false):
 Calls prog 49 #[.slice ia il ic,.agg bV,.slice ca n cc,.func (.func ff) #[] lb] w fun e w'=>∃b,e=.returned (.tuple #[.pointer (some ⟨b,0,none⟩),.nilIface])∧dW W0 w' b (lz (.slice ia il ic) (.slice ca n cc) st cs cnt):=by
 obtain⟨iv,hiv⟩:∃iv,iv=Value.slice ia il ic:=⟨_,rfl⟩;have hc:cnt≤512:=by omega
 obtain⟨W1,hW1⟩:∃W1,W1=w.alloc (.cells bV 31):=⟨_,rfl⟩;have B1:=ae (Below w.heap.size w W1) (by rw[hW1];exact ak.alloc aj _);have K1:=ae (af W1 w.heap.size bV 31) (by rw[hW1];exact af.new w _ _);have HA:=aa (ai hb (ai hi (ai hz (ai hbd (ai hsz (ai hR (ai hn (ai hcs (ai hcnt (ai hg (ai hsup hsh)))))))))));have L1:=ae (Below W0.heap.size W0 W1) (hb.trans (B1.out.mono hb.size));have HW1:=aa hW1;have hnI:¬(262144:Int)<(n:Int):=by omega
 have hw0:=hb.size;clear hb hi hz hbd hsz hR hn hcs hcnt hg hsup hsh hW1 hiv;go_enter func49,ntmps49;go_upto_region 1 with fail;rw[←HW1.out];go_upto_region 2 with(first
  |(refine wpList_load_row rfl 31 _ rfl w.heap.size rfl 31 bV (0,0) _ K1.out underlying31 rfl vT ?_)
  |(go_at_call 87;refine(JJ ia il ic zs _ (HA.out.2.1.below L1.out) HA.out.2.2.1 HA.out.2.2.2.2.1).mono ?_;rintro e w2 ⟨rfl,b2⟩;have B2:=aa b2;clear b2))
 obtain⟨W3,hW3⟩:∃W3,W3=w2.alloc (.cells (lZ (.slice ia il ic)) 108):=⟨_,rfl⟩;have B3:=ae (Below w2.heap.size w2 W3) (by rw[hW3];exact ak.alloc aj _);have K3:=ae (af W3 w2.heap.size (lZ (.slice ia il ic)) 108) (by rw[hW3];exact af.new w2 _ _);have hs2:w.heap.size≤w2.heap.size:=aK B1.out.size B2.out.size;have XU:=ae (Below w.heap.size w W3) ((B1.out.trans (B2.out.mono B1.out.size)).trans (B3.out.mono hs2));have L3:=ae (Below W0.heap.size W0 W3) (HA.out.1.trans (XU.out.mono hw0));rw[←hW3];clear hW3;go_upto_region 7 with(first
  |(refine wpList_load_row rfl 108 _ rfl w2.heap.size rfl 108 (lZ (.slice ia il ic)) (0,0) _ K3.out underlying108 rfl pZ ?_)
  |(go_at_call 88;refine(JK (.slice ia il ic) zs _ (HA.out.2.1.below L3.out) HA.out.2.2.1 HA.out.2.2.2.1).mono ?_;rintro e w4 ⟨a0,q0,a1,q1,a2,q2,rfl,r4,ap4,b4⟩;have R4:=aa (ai r4 (ai ap4 b4));clear r4 ap4 b4))
 obtain⟨W5,Ph⟩:∃W5,W5=w4.alloc (.cells #[.slice a0 0 q0,.slice a1 0 q1,.slice a2 0 q2] 110):=⟨_,rfl⟩;have B5:=ae (Below w4.heap.size w4 W5) (by rw[Ph];exact ak.alloc aj _);have K5:=ae (af W5 w4.heap.size #[.slice a0 0 q0,.slice a1 0 q1,.slice a2 0 q2] 110) (by rw[Ph];exact af.new w4 _ _);have Tg:=ae (Below W3.heap.size W3 W5) (R4.out.2.2.trans (B5.out.mono R4.out.2.2.size));have T5:=aa (K3.out.below Tg.out K3.out.lt);have B5w:=ae (Below w.heap.size w W5) (XU.out.trans (Tg.out.mono XU.out.size));rw[←Ph];clear Ph;have hBu:=JI ia il ic ca n cc a0 0 q0 a1 0 q1 a2 0 q2 ff lb;obtain⟨TZ,XV⟩:∃TZ,TZ=lZ (Value.slice ia il ic):=⟨_,rfl⟩;obtain⟨NZ,XW⟩:∃NZ:Array Value,NZ=#[.slice a0 0 q0,.slice a1 0 q1,.slice a2 0 q2]:=⟨_,rfl⟩;obtain⟨RZ,Qm⟩:∃RZ,RZ=sk (.slice ia il ic) (.slice ca n cc) (.slice a0 0 q0) (.slice a1 0 q1) (.slice a2 0 q2) (.func (.func ff) #[] lb):=⟨_,rfl⟩;rw[←XV, ←XW, ←Qm] at hBu;rw[←XV] at T5⊢;rw[←XW] at K5⊢;have Pb:=ae ((prog.info? 108).map (·.size)=some TZ.size) (by rw[XV];exact pZ);have HInN:=ae ((prog.info? 110).map (·.size)=some NZ.size) (by rw[XW];exact Mi);have U6:=aa hBu;have TO:=aa Qm;clear hBu XV XW Qm;go_upto_region 10 with(first
  |(refine wpList_load_row rfl 108 _ rfl w2.heap.size rfl 108 TZ (0,0) _ T5.out underlying108 rfl Pb.out ?_)
  |(refine wpList_load_row rfl 110 _ rfl w4.heap.size rfl 110 NZ (0,0) _ K5.out underlying110 rfl HInN.out ?_)
  |(refine wpList_buildTo rfl 112 _ rfl (some 41) rfl RZ (by simp only[List.map_toArray,List.map_cons,List.map_nil];exact U6.out) ?_))
 obtain⟨W6,Sw⟩:∃W6,W6=W5.alloc (.cells RZ 112):=⟨_,rfl⟩;have B6:=ae (Below W5.heap.size W5 W6) (by rw[Sw];exact ak.alloc aj _);have K6:=ae (af W6 W5.heap.size (sk (.slice ia il ic) (.slice ca n cc) (.slice a0 0 q0) (.slice a1 0 q1) (.slice a2 0 q2) (.func (.func ff) #[] lb)) 112) (by rw[Sw, ←TO.out];exact af.new W5 _ _);have B6w:=ae (Below w.heap.size w W6) (B5w.out.trans (B6.out.mono B5w.out.size));have S6:=ae (dW W0 W6 W5.heap.size (ij (.slice ia il ic) (.slice ca n cc) st)) (by
  have bq:Below w4.heap.size w4 W6:=B5.out.trans (B6.out.mono B5.out.size);have hm:W0.heap.size≤W3.heap.size:=aK hw0 XU.out.size;refine Mj W0 W6 W5.heap.size _ _ a0 q0 a1 q1 a2 q2 _ st (HA.out.1.trans (B6w.out.mono hw0)) (aK hw0 B5w.out.size) K6.out ⟨cC (cH R4.out.1.1 hm) bq,cC (cH R4.out.1.2.1 hm) bq,cC (cH R4.out.1.2.2 hm) bq⟩ R4.out.2.1 (HA.out.2.2.2.2.2.2.2.2.2.2.1.below B6w.out))
 rw[←Sw];clear Sw;obtain⟨b,hbW⟩:∃b,b=W5.heap.size:=⟨_,rfl⟩;rw[←hbW] at S6⊢;clear hbW;have hL0:∀l,l<3→((ij (.slice ia il ic) (.slice ca n cc) st).Ln l).length≤513:=fun l _=>Nat.zero_le _;have UY:=aa hL0;clear hL0;go_upto_region 11 with(first
  |(go_at_call 89;refine(JH W0 _ b n cnt ca cc cs _ S6.out rfl HA.out.2.2.2.2.2.2.1 HA.out.2.2.2.2.2.1 HA.out.2.2.2.2.2.2.2.1 HA.out.2.2.2.2.2.2.2.2.1 UY.out (Nat.zero_le _) (fun l r=>by simp[ij])).mono ?_;rintro e w7 ⟨rfl,r7,k7⟩;have R7:=aa (ai r7 k7);clear r7 k7))
 have hlv:=oD hc;have Sg:=ae (lu (ij (.slice ia il ic) (.slice ca n cc) st) ((dQ cnt 0 14).foldl (lq cs) (ij (.slice ia il ic) (.slice ca n cc) st)) 512) (by have h:=R7.out.2;rw[hlv.1,List.length_range, ←hlv.1] at h;exact⟨h.tr,h.cv,h.Lo,by have:=h.P;omega,h.Ln⟩);obtain⟨D1,hD1⟩:∃D1,D1=(dQ cnt 0 14).foldl (lq cs) (ij (.slice ia il ic) (.slice ca n cc) st):=⟨_,rfl⟩;rw[←hD1] at R7 Sg;have HD1:=aa hD1;have HC:=aa hc;clear hD1 hlv hc;go_upto_region 12 with(first
  |(go_at_call 89;refine(AE 0 (by omega) W0 _ b n cnt ca cc D1 R7.out.1 (by rw[Sg.out.cv];rfl) (by have:=HA.out.2.2.2.2.2.2.2.1;have:=HA.out.2.2.2.2.2.2.1;omega) HA.out.2.2.2.2.2.2.2.2.1 HA.out.2.2.2.2.2.2.2.2.2.1 (fun l _=>aK (Sg.out.Ln l) (by simp[ij])) (aK Sg.out.P (by simp[ij])) (fun l r=>by rw[Sg.out.Lo];simp[ij])).mono ?_;rintro e w8 ⟨rfl,r8,k8⟩;have R8:=aa (ai r8 k8);clear r8 k8))
 have hlv:=oD HC.out;have Wy:=ae (lu D1 ((dQ cnt 1 14).foldl (lX 0) D1) 512) (by have h:=R8.out.2;rw[hlv.2.1,List.length_range, ←hlv.2.1] at h;exact⟨h.tr,h.cv,h.Lo,by have:=h.P;have:=HC.out;omega,h.Ln⟩);obtain⟨D2,hD2⟩:∃D2,D2=(dQ cnt 1 14).foldl (lX 0) D1:=⟨_,rfl⟩;have V7:dW W0 w8 b D2:=by rw[hD2];exact R8.out.1
 have HR8:=aa V7;rw[←hD2] at Wy;have HD2:=aa hD2;clear hD2 hlv V7 R8;go_upto_region 13 with(first
  |(go_at_call 89;refine(AE 1 (by omega) W0 _ b n cnt ca cc D2 HR8.out (by rw[Wy.out.cv,Sg.out.cv];rfl) (by have:=HA.out.2.2.2.2.2.2.2.1;have:=HA.out.2.2.2.2.2.2.1;omega) HA.out.2.2.2.2.2.2.2.2.1 HA.out.2.2.2.2.2.2.2.2.2.1 (fun l _=>aK (Wy.out.Ln l) (by have:=Sg.out.Ln l;simp[ij] at this;omega)) (aK Wy.out.P (by have:=Sg.out.P;simp[ij] at this;omega)) (fun l r=>by rw[Wy.out.Lo,Sg.out.Lo];simp[ij])).mono ?_;rintro e w9 ⟨rfl,r9,k9⟩;have R9:=aa r9;clear r9 k9))
 have Wc:dW W0 w9 b (lz (.slice ia il ic) (.slice ca n cc) st cs cnt):=by
  unfold lz;rw[←HD1.out, ←HD2.out];exact R9.out
 have HR9:=aa Wc;obtain⟨C9,so9,sl9,fv9,pv9,vs9,OX⟩:=Wc;have c25:=(OX.now.box.cell 25).trans OX.sh;rw[HA.out.2.2.2.2.2.2.2.2.2.2.2] at c25;clear OX;go_wp2;go_ret2;exact⟨b,rfl,HR9.out⟩
theorem dW.dK{W0 W:World}{b:Nat}{D:RD}(h:dW W0 W b D):∃pa pc vs,W.cell? ⟨b,24,none⟩=some (.slice pa D.P.length pc)∧aZ W W0.heap.size 55 1 (.slice pa D.P.length pc) (D.P.map lp) vs:=by
 obtain⟨C,so,sl,fv,pv,vs,hS⟩:=h;obtain⟨pa,pc,rfl⟩:=bO hS.dK.row;rw[length_map] at hS;exact⟨pa,pc,vs,(hS.now.box.cell 24).trans hS.ps,hS.dK⟩
end
section
open Go.RowKit
theorem Ml(b n base:Nat)(C:Array Value)(sl:Nat→Value)(Ls:Nat→List Int)(w:World)(h:dP w base b 20 C 112 sl Ls):
 Calls prog 52 #[.pointer (some ⟨b,20,none⟩),.int .i64 (n:Int)] w fun e w'=>e=.returned (.agg (gj Ls n 14))∧Below w.heap.size w w':=zA b 20 n base 112 C sl Ls w h
end
section
open Go.RowKit Go.Shelf
theorem BW{P:Program}{fn:Func}{p t u:Tmp}{ty:TypeId}(h:fn.results=#[.cell p ty,.tmp t,.tmp u])(tmps:Array Value)(w:World)(g:Nat)(ti:TypeId)(cs:Array Value)(fr:Nat×Nat)(d:TypeDesc)(x y:Value)
 (hp:tmps.getD p undef=.pointer (some ⟨g,0,none⟩)) (ht:tmps.getD t undef=x) (hy:tmps.getD u undef=y) (hg:w.heap[g]?=some (.cells cs ti fr))
 (hu:P.underlying ty=some d) (hd:(match d with|.struct _|.array _ _=>true|_=>false)=true) (hi:(P.info? ty).map (·.size)=some cs.size):
 (results fn tmps).run P w=.ok (.tuple #[.agg cs,x,y]) w:=by
 simp only[results,h];simp[Sem.run_bind,Result.andThen, ←Array.getD_eq_getD_getElem?,ht,hp,hy,asAddr,run_loadVar_row w g ti ty cs fr d hg hu hd hi]
theorem Mm:(prog.info? 55).map (·.size)=some 2:=by kernel_rfl
theorem Mn(fa:Option Addr)(fl fc:Nat)(w:World):Calls prog 50 #[.slice fa fl fc] w fun e w'=>e=.returned (.func (.func 92) #[] #[.pointer (some ⟨w.heap.size,0,none⟩)])∧w'=w.alloc (.cells #[.slice fa fl fc] 45):=by
 go_enter func50,ntmps50;go_wp2;go_ret;exact⟨rfl,rfl⟩
theorem Mo{W:World}{base:Nat}{pa:Option Addr}{pn pc:Nat}{P:List (Int×List Int)}{vs:List Value}(h:aZ W base 55 1 (.slice pa pn pc) (P.map lp) vs)(hn:pn=P.length)(i:Nat)(hi:i<pn):∃pg x v,pa=some ⟨pg,0,none⟩∧W.rangeAt pg (i*2) [.int .i64 x,v]∧pg<W.heap.size∧(∃ys,P[i]?=some (x,ys)∧∃da dl dc,v=.slice da dl dc∧W.ownsRow base 5 1 v ys.length (ys.map (Value.int .u8))):=by
 obtain⟨a,cap,e,hc,_,_⟩:=h.rd.row;rw[length_map] at e hc;obtain⟨pg,off,rfl,hlt,hcell⟩:=hc (by omega);injection e with e1 e2 e3;subst e1;have hoff:off=0:=by
  rcases h.row.2 with⟨e',_⟩|⟨g,cap',cur,e',_⟩
  ·cases e'
  ·injection e' with e1 e2 e3;injection e1 with e1;injection e1 with e1 e2
 subst hoff;have hiL:i<P.length:=by omega
 have hvl:i<vs.length:=by rw[h.len,length_map];exact hiL
 have hv:=List.getElem?_eq_getElem hvl;have hp:(P.map lp)[i]?=some (lp P[i]):=by rw[List.getElem?_map,List.getElem?_eq_getElem hiL];rfl
 have ho:=h.dat i _ _ hv hp;obtain⟨da,dc,hs⟩:=bO ho;refine⟨pg,P[i].1,vs[i],rfl,fun j u hj=>?_,hlt,P[i].2,List.getElem?_eq_getElem hiL,da,_,dc,hs,ho⟩;have hj2:j<2:=by
  rcases Nat.lt_or_ge j 2 with h|h
  ·exact h
  ·rw[List.getElem?_eq_none (by simpa using h)] at hj;cases hj
 have:=hcell (i*2+j) u (by rw[rD 1 vs (P.map lp) h.len h.pre i j _ _ hv hp (by omega)];exact hj);rw[Nat.zero_add] at this;exact this
theorem Mp(w:World)(ia ca fa:Option Addr)(il ic n cc fl fc cnt:Nat)(zs cs fs:List Int)(D:RD)
 (hi:Rd .u8 w (.slice ia il ic) zs) (hil:il=zs.length) (hz:zs.length≤1048576) (hbd:∀z∈zs,0≤z∧z<256) (hsz:dx zs.length=true) (hR:Rd .u8 w (.slice ca n cc) cs) (hn:n=cs.length) (hcs:cs.length≤262144) (hcnt:cnt=(n+511)/512) (hg:eM w) (hf:Rd .i64 w (.slice fa fl fc) fs) (hfl:fl=fs.length)
 (hD:D=lz (.slice ia il ic) (.slice ca n cc) (some fs) cs cnt) (hsh:D.sh=false) (hPl:D.P.length≤100000) (hbk:∀x∈D.P,2≤x.1∧x.1<((zs.length/512:Nat):Int)):
 Calls prog 19 #[.slice ia il ic,.agg bV,.slice ca n cc,.slice fa fl fc] w fun e w'=>∃pa pc vs,e=.returned (.tuple #[.agg (gj D.Ln n 14),.slice pa D.P.length pc,.int .i64 0])∧aZ w' w.heap.size 55 1 (.slice pa D.P.length pc) (D.P.map lp) vs∧Below w.heap.size w w':=by
 obtain⟨W2,hW2⟩:∃W2,W2=(w.alloc (.cells bV 31)).alloc (.cells bV 31):=⟨_,rfl⟩;have B2:=ae (Below w.heap.size w W2) (by rw[hW2];exact(ak.alloc aj _).alloc (by simp) _);have K1:=ae (af W2 w.heap.size bV 31) (by rw[hW2];exact(af.new w _ _).alloc _);have K2:=ae (af W2 (w.heap.size+1) bV 31) (by have h:=af.new (w.alloc (.cells bV 31)) bV 31;rw[World.size_alloc] at h;rw[hW2];exact h);have hs2:W2.heap.size=w.heap.size+2:=by rw[hW2];simp
 obtain⟨W3,hW3⟩:∃W3,W3=W2.drew.alloc (.cells #[.slice fa fl fc] 45):=⟨_,rfl⟩;have B3:=ae (Below W2.heap.size W2 W3) (by rw[hW3];exact(ak.drew).alloc aj _);have K3:=ae (af W3 W2.heap.size #[.slice fa fl fc] 45) (by rw[hW3];exact af.new W2.drew _ _);have HA:=aa (Mk W2 W3 ia ca il ic n cc cnt 92 #[.pointer (some ⟨W2.heap.size,0,none⟩)] zs cs (some fs) B3.out (hi.below B2.out) hz hbd hsz (hR.below B2.out) hn hcs hcnt (hg.below B2.out) ⟨W2.heap.size,fa,fc,rfl,aj,by rw[←hfl];exact K3.out,by rw[←hfl];exact hf.below B2.out⟩ (by rw[←hD];exact hsh));have HD:=aa (ai hD (ai hPl hbk));have HQ:=ae ((il:Int)/512=((zs.length/512:Nat):Int)) (by rw[hil];omega);have HIl:=ae (il≤1048576) (by omega);have HW2:=aa hW2;have HW3:=aa hW3;have O0:=aa hs2;clear hi hil hz hbd hsz hR hn hcs hcnt hg hf hfl hD hsh hPl hbk hW2 hW3 hs2;go_enter func19,ntmps19;go_upto_region 1 with fail;rw[←HW2.out];refine bg (fun w'=>af w' w.heap.size bV 31) K1.out fun hH=>?_;refine ah 0 (.slice ia il ic) rfl hH ?_;refine ah 1 (.agg bV) rfl hH ?_ (yieldsIf_load_mid (by rfl) 31 _ rfl w.heap.size 0 rfl bV.toList _ (fun w' h=>oA h) underlying31 rfl vT);refine ah 2 (.slice ca n cc) rfl hH ?_;refine ah 3 (.slice fa fl fc) rfl hH ?_;refine aG 4 rfl fun K hK=>?_;go_simp;refine(Mn fa fl fc _).mono ?_;rintro e w3 ⟨rfl,rfl⟩;rw[←HW3.out];refine hK.out _ _ (K1.out.below B3.out K1.out.lt) (fun hH=>?_);clear hK K;try simp only[Act.put,av,ay,az,aA,aB,aC]
 refine aG 5 rfl fun K hK=>?_;go_simp;refine HA.out.mono ?_;rintro e w4 ⟨b,rfl,r4⟩;rw[←HD.out.1] at r4;have R4:=aa r4;have B4:=ae (Below W2.heap.size W2 w4) (by obtain⟨C,so,sl,fv,pv,vs2,hS⟩:=r4;exact hS.low);clear r4;refine hK.out _ _ (K1.out.below B4.out K1.out.lt) (fun hH=>?_);clear hK K;try simp only[Act.put,av,ay,az,aA,aB,aC]
 refine ah 6 (.tuple #[.pointer (some ⟨b,0,none⟩),.nilIface]) rfl hH ?_;refine ah 7 (.pointer (some ⟨b,0,none⟩)) rfl hH ?_;refine ah 8 .nilIface rfl hH ?_;refine ah 9 (.pointer (some ⟨b,0,none⟩)) rfl hH ?_;refine ah 10 .nilIface rfl hH ?_;refine aV ?_;clear hH;obtain⟨pa,pc,vs,c24,hpo⟩:=R4.out.dK;obtain⟨pn,hpn⟩:∃pn,pn=D.P.length:=⟨_,rfl⟩;rw[←hpn] at c24 hpo;have UA:=aa hpn;have C24:=aa c24;have HPO:=aa hpo;have hpb:pn≤100000:=by rw[hpn];exact HD.out.2.1
 have hilb:=HIl.out;clear hpo hpn;go_upto_region 4 with fail;go_wp2;clear c24;go_loopw [34] (fun iv wr=>∃i:Nat,i≤pn∧iv=.int .i64 (i:Int)∧Below w4.heap.size w4 wr) (fun iv _=>pn-(intOf iv).toNat)
 case atStart=>exact⟨0,by omega,rfl,ak⟩
 case round=>
  obtain⟨i,hi,rfl,hb⟩:=hrel;have HB:=aa hb;by_cases hi2:i<pn
  ·obtain⟨pg,x,v,rfl,hrg,hlt,ys,hP,da,dl,dc,rfl,hown⟩:=Mo (HPO.out.below hb) UA.out i hi2;have eU:=aa hrg;have hx:=HD.out.2.2 _ (List.mem_of_getElem? hP);have hx2:(decide (2≤x)&&decide (x<(il:Int)/512))=true:=(by rw[HQ.out];simp;exact hx);have Uk:(i:Int)<(pn:Int):=(by omega);clear hrg hP hown hx hb;go_wp2_with (first
    |(refine wpList_load_mid rfl 55 _ rfl pg (i*2) rfl [.int .i64 x,.slice da dl dc] _ eU.out underlying55 rfl Mm ?_)
    |(go_at_call 51;refine(xN x ((il:Int)/512) _).mono ?_;rintro e w7 ⟨rfl,rfl⟩;rw[hx2]))
   exact⟨⟨i+1,by omega,by go_num,HB.out.trans ((ak.alloc aj _).mono HB.out.size)⟩,by simp[intOf];omega⟩
  ·have hi3:i=pn:=(by omega);subst hi3;have Uk:¬(i:Int)<(i:Int):=(by omega);obtain⟨wd,hwd⟩:∃wd,wd=wr:=⟨_,rfl⟩;have R5:=aa (R4.out.below HB.out);have B5:=ae (Below W2.heap.size W2 wr) (B4.out.trans (HB.out.mono B4.out.size));have P5:=aa (HPO.out.below HB.out);have C5:=ae (wr.cell? ⟨b,24,none⟩=some (.slice pa i pc)) ((HB.out.cell (p:=⟨b,24,none⟩) (eu C24.out)).trans C24.out);have K5:=aa (K2.out.below B5.out K2.out.lt);have HBlo:=ae (W2.heap.size≤b) (by obtain⟨C,so,sl,fv,pv,vs2,hS⟩:=R4.out;exact hS.lo);clear hb hwd;go_wp2_with fail;refine bg (fun w'=>w'.cell? ⟨b,24,none⟩=some (.slice pa i pc)) C5.out fun hH=>?_;refine ah 0 (.pointer (some ⟨b,0,none⟩)) rfl hH ?_;refine ah 1 (.pointer (some ⟨b,0,none⟩)) rfl hH ?_;refine ah 2 (.pointer (some ⟨b,20,none⟩)) rfl hH ?_;refine ah 3 (.slice ca n cc) rfl hH ?_;refine ah 4 (.int .i64 (n:Int)) rfl hH ?_;refine ah 6 (.pointer (some ⟨b,0,none⟩)) rfl hH ?_;refine ah 7 (.pointer (some ⟨b,0,none⟩)) rfl hH ?_;refine ah 8 (.pointer (some ⟨b,24,none⟩)) rfl hH ?_;refine ah 9 (.slice pa i pc) rfl hH ?_;refine aG 5 rfl fun K hK=>?_;go_simp;obtain⟨C,so,sl,fv,pv,vs2,hS⟩:=R5.out.below (ak.drew);refine(Ml b n W2.heap.size C sl D.Ln _ hS.now).mono ?_;rintro e w6 ⟨rfl,b6⟩;have B6:=ae (Below wr.heap.size wr w6) (ak.drew.trans b6);clear hS b6;have s6:w6.cell? ⟨b,24,none⟩=some (.slice pa i pc):=(B6.out.cell (p:=⟨b,24,none⟩) (eu C5.out)).trans C5.out;refine hK.out _ _ s6 (fun hH=>?_);clear hK K s6;try simp only[Act.put,av,ay,az,aA,aB,aC]
   obtain⟨RF,Nr⟩:∃RF,RF=gj D.Ln n 14:=⟨_,rfl⟩;rw[←Nr];have RJ:=aa Nr;have nv:=ae ((prog.info? 31).map (·.size)=some RF.size) (by rw[Nr,oq];exact vT);have HO:=ae (RF.all (·.oneCell')=true) (by rw[Nr];exact lI _);have HSr:=ae (bV.size=RF.size) (by rw[Nr,oq];rfl);have K6:=aa (K5.out.below B6.out K5.out.lt);clear Nr;refine aG 10 rfl fun K hK=>?_;rw[if_pos (by rfl)];refine wp_store_row 31 _ _ rfl (w.heap.size+1) RF rfl rfl 31 bV K6.out nv.out HSr.out HO.out ?_;have s7:(w6.setRow (w.heap.size+1) RF).cell? ⟨b,24,none⟩=some (.slice pa i pc):=(World.cell?_of_block (w:=w6) (a:=⟨b,24,none⟩) (setRow_other w6 (w.heap.size+1) b RF (by have h1:=HBlo.out;have h2:=O0.out;omega))).trans hH;refine hK.out _ _ s7 (fun hH=>?_);clear hK K s7;try simp only[Act.put,av,ay,az,aA,aB,aC]
   refine ah 11 (.slice pa i pc) rfl hH ?_;refine ah 12 (.int .i64 0) rfl hH ?_;refine aV ?_;clear hH;go_wp2_with fail;have k7:af (w6.setRow (w.heap.size+1) RF) (w.heap.size+1) RF 31:=K6.out.row _;have b7:Below w.heap.size w (w6.setRow (w.heap.size+1) RF):=below_setRow ((B2.out.trans (B5.out.mono B2.out.size)).trans (B6.out.mono (aK B2.out.size B5.out.size))) (by omega) _;have y7:bP (fun t=>t=31) w6 (w6.setRow (w.heap.size+1) RF):=fun k hk hT=>setRow_other w6 (w.heap.size+1) k RF (fun e=>by subst e;exact hT _ _ _ K6.out rfl);refine bodyPost_ret (BW rfl _ _ (w.heap.size+1) 31 RF (0,0) _ (.slice pa i pc) (.int .i64 0) rfl rfl rfl k7 underlying31 rfl nv.out) rfl ?_;refine⟨pa,pc,vs,by rw[RJ.out,UA.out],?_,b7⟩;have:=y7.pW ((P5.out.below B6.out).mono (base':=w.heap.size) B2.out.size) (by decide) (by decide);rw[←UA.out];exact this
end
section
open Go.RowKit
def qh(W W5:World):Prop:=W.heap.size≤W5.heap.size∧∀k,k<W.heap.size→W5.heap[k]?=W.heap[k]?
theorem qh.blk{W W5:World}(h:qh W W5){b:Nat}{C:Array Value}{t:TypeId}(k:af W b C t):af W5 b C t:=(h.2 b k.lt).trans k
theorem qh.own{W W5:World}(h:qh W W5){base m:Nat}{e:TypeId}{v:Value}{L:List NE}{vs:List Value}(k:aZ W base e m v L vs):aZ W5 base e m v L vs:=
 ⟨k.len,k.pre,eF k.row (fun q hq=>h.2 q (k.row.lt q hq).2),fun i u l hu hl=>eF (k.dat i u l hu hl) (fun q hq=>h.2 q ((k.dat i u l hu hl).lt q hq).2),k.one⟩
theorem vU{w w1 w2:World}{b:Nat}(h:Below w.heap.size w w1)(g:w1.grownBy w2 (some b))(hb:w.heap.size≤b):Below w.heap.size w w2:=h.grown g h.size (fun k e=>by have e2:b=k:=Option.some.inj e;omega)
theorem oV{P:Program}{ops:Array Oper}{rest:List Oper}{o:Oper}{a:Act}{w:World}{Q:Exit→Act→World→Prop}(B:Nat)(W0:World)(hgd:o.guard=none)(ty:TypeId)(x y:Operand)(ho:o.op=.store ty x y)
 (g:Nat) (cells:Array Value) (hx:a.eval x=.pointer (some ⟨g,0,none⟩)) (hy:a.eval y=.agg cells)
 (t:TypeId) (old:Array Value) (hg:af w g old t) (hi:(P.info? ty).map (·.size)=some cells.size)
 (hold:old.size=cells.size) (h1:cells.all (·.oneCell')=true) (hB:Below B W0 w) (hBg:B≤g)
 (h:∀w2,af w2 g cells t→Below B W0 w2→(∀W,W.heap.size≤g→(∀k,k<W.heap.size→w.heap[k]?=W.heap[k]?)→qh W w2)→wpList P ops Q rest (a.put o.dst undef) w2):wpList P ops Q (o::rest) a w:=
 wpList_store_row hgd ty x y ho g cells hx hy t old hg hi hold h1 (h _ (hg.row cells) (below_setRow hB hBg cells) (fun W hW hs=>⟨by have:=hg.lt;simp;omega,fun k hk=>(setRow_other w g k cells (by omega)).trans (hs k hk)⟩))
theorem Mq(f fo fc ic L x:Nat)(ia:Option Addr)(cv:Value)(zs cs:List Int)(w:World)
 (hf:w.cell? ⟨f,fo,none⟩=some (.int .i64 (x:Int))) (hx:2≤x) (hx2:x<L/512)
 (hi:Rd .u8 w (.slice ia L ic) zs) (hsz:dx zs.length=true) (hz:zs.length≤1048576) (hL:L≤1048576) (hbd:∀z∈zs,0≤z∧z<256) (hc:Rd .u8 w cv cs) (h0:0<cs.length) (h5:cs.length≤512) (hnz:ji (cs++replicate (512-cs.length) 0)=false):
 Calls prog 13 #[.slice ia L ic,.agg bV,cv,.slice (some ⟨f,fo,none⟩) 1 fc] w fun e w'=>∃pv vs,e=.returned (.tuple #[.agg (an (aD (cs.length:Int) ((x:Int)::replicate 11 0) 0 0)),pv,.int .i64 0])∧aZ w' w.heap.size 55 1 pv ([((x:Int),cs++replicate (512-cs.length) 0)].map bu) vs∧Below w.heap.size w w':=by
 obtain⟨ca,cc,rfl⟩:=eY hc;obtain⟨W1,hW1⟩:∃W1,W1=(w.alloc (.cells bV 31)).alloc (.cells bV 31):=⟨_,rfl⟩;have HW1:=aa hW1;have K1:=ae (af W1 w.heap.size bV 31) (by rw[hW1];exact(af.new _ _ _).alloc _);have Z1:=ae (af W1 (w.heap.size+1) bV 31) (by rw[hW1];have h:=af.new (w.alloc (.cells bV 31)) bV 31;rw[World.size_alloc] at h;exact h);have B1:=ae (Below w.heap.size w W1) (by rw[hW1];exact(ak.alloc aj _).alloc (by simp) _);have S1:=ae (W1.heap.size=w.heap.size+2) (by rw[hW1];simp);have QG:=ae (Calls prog 28 #[.slice ia L ic,.agg bV] W1 fun e w'=>e=.returned (.int .i64 0)∧Below W1.heap.size W1 w') (by
  have h:=tJ (.slice ia L ic) zs 0 (replicate 12 0) 0 0 W1 (hi.below B1.out) hz rfl;rw[show iO zs 0 (replicate 12 0) 0 0=0 by unfold iO;rw[if_pos ⟨hsz,by decide⟩]] at h;exact h)
 have HH:=aa (ai hi (ai hz (ai hbd (ai hc hf))));have HX:=aa (ai hx hx2);have HC:=aa (ai h0 (ai h5 hnz));have HLb:=aa hL;obtain⟨n,hn⟩:∃n,n=cs.length:=⟨_,rfl⟩;have HN:=aa hn;rw[←hn];have hn5:¬((262144:Int)<(n:Int)):=by omega
 clear hi hz hbd hc hf hx hx2 h0 h5 hnz hL hW1 hn hsz;go_enter func13,ntmps13;go_upto_region 1 with fail;rw[←HW1.out];go_upto_region 6 with(first
  |(refine wpList_load_row rfl 31 _ rfl w.heap.size rfl 31 bV (0,0) _ K1.out underlying31 rfl ku ?_)
  |(
   go_at_call 28
   refine QG.out.mono ?_;rintro e W2 ⟨rfl,b2⟩;have K2:=aa (K1.out.below b2 K1.out.lt);have Z2:=aa (Z1.out.below b2 Z1.out.lt);have B2:=aa (B1.out.trans (b2.mono B1.out.size));clear b2)
  |fail)
 obtain⟨W3,hW3⟩:∃W3,W3=W2.alloc (.cells (fq (.slice ia L ic) (.slice (some ⟨f,fo,none⟩) 1 fc) 0 (.slice none 0 0)) 70):=⟨_,rfl⟩;have J3:=ae (af W3 W2.heap.size (fq (.slice ia L ic) (.slice (some ⟨f,fo,none⟩) 1 fc) 0 (.slice none 0 0)) 70) (by rw[hW3];exact af.new _ _ _);have b3:Below W2.heap.size W2 W3:=by rw[hW3];exact ak.alloc aj _
 have K3:=aa (K2.out.below b3 K2.out.lt);have Z3:=aa (Z2.out.below b3 Z2.out.lt);have B3:=aa (B2.out.trans (b3.mono B2.out.size));have S3:=ae (w.heap.size+2≤W2.heap.size) Z2.out.lt;have HW3:=aa hW3;clear b3 hW3;have Xn:=aa (Mh W2.heap.size f fo fc ic L x ia (.slice ca n cc) zs cs W3 J3.out ((B3.out.cell (p:=⟨f,fo,none⟩) (eu HH.out.2.2.2.2)).trans HH.out.2.2.2.2) HX.out.1 HX.out.2 (HH.out.1.below B3.out) HH.out.2.1 HLb.out HH.out.2.2.1 (by rw[HN.out];exact HH.out.2.2.2.1.below B3.out) HC.out.1 HC.out.2.1 HC.out.2.2);obtain⟨RC,UJ⟩:∃RC,RC=an (aD (cs.length:Int) ((x:Int)::replicate 11 0) 0 0):=⟨_,rfl⟩;rw[←UJ] at Xn;have HRC:=aa UJ;have N9:=ae ((prog.info? 31).map (·.size)=some RC.size) (by rw[UJ,ct];exact ku);have NW:=ae (RC.all (·.oneCell')=true) (by rw[UJ];simp[an,Array.all_eq_true,Value.oneCell']);have NQ:=ae (bV.size=RC.size) (by rw[UJ,ct];rfl);clear UJ;go_upto_region 7 with fail;rw[show W2.alloc (.cells #[.slice ia L ic,.slice (some ⟨f,fo,none⟩) 1 fc,.bool false,.int .i64 0,.slice none 0 0,.int .i64 0] 70)=W3 from HW3.out.symm];go_upto_region 8 with(first
  |(refine wpList_load_row rfl 31 _ rfl w.heap.size rfl 31 bV (0,0) _ K3.out underlying31 rfl ku ?_)
  |(
   go_at_call 29
   refine Xn.out.mono ?_;rintro e W4 ⟨rfl,hF⟩;obtain⟨pv,vs,kJ,oP,g4⟩:=hF;have J4:=aa kJ;have P4:=aa oP;have G4:=aa g4;have Z4:=ae (af W4 (w.heap.size+1) bV 31) ((g4.block _ Z3.out.lt (fun e=>by have e2:w.heap.size+1=W2.heap.size:=Option.some.inj e;have:=S3.out;omega)).trans Z3.out);clear kJ oP g4)
  |(
   refine oV w.heap.size w rfl 31 _ _ rfl W4.heap.size RC rfl rfl 31 bV (af.new W4 bV 31) N9.out NQ.out NW.out ?hB (by have h1:=B3.out.size;have h2:=G4.out.size;omega) ?_
   case hB=>exact(vU B3.out G4.out (by have:=S3.out;omega)).alloc (by have h1:=B3.out.size;have h2:=G4.out.size;omega) _
   intro W5 k5 b5 s5;have R5:=aa k5;have B5:=aa b5;have s5:=s5 W4 aj (fun k hk=>Below.heap_alloc W4 _ k hk);have J5:=aa (s5.blk J4.out);have Z5:=aa (s5.blk Z4.out);have P5:=aa (s5.own P4.out);clear k5 b5 s5)
  |fail)
 obtain⟨pa,pc,rfl⟩:=bO P4.out.row;have c5:=(J5.out.cell 5).trans (show(fq (.slice ia L ic) (.slice (some ⟨f,fo,none⟩) 1 fc) 1 (.slice pa 1 pc))[5]?=some (.int .i64 0) from rfl);go_upto_region 10 with fail;clear c5;refine bg (fun w'=>af w' W2.heap.size (fq (.slice ia L ic) (.slice (some ⟨f,fo,none⟩) 1 fc) 1 (.slice pa 1 pc)) 70∧af w' W4.heap.size RC 31) ⟨(show af W5.drew _ _ _ from J5.out),(show af W5.drew _ _ _ from R5.out)⟩ fun hH=>?_;refine ah 0 (.agg RC) rfl hH ?_ (yieldsIf_load_mid (by rfl) 31 _ rfl W4.heap.size 0 rfl RC.toList _ (fun w' h=>vP h.2) underlying31 rfl (by rw[Array.length_toList];exact N9.out));refine ah 1 (.pointer (some ⟨W2.heap.size,0,none⟩)) rfl hH ?_;refine ah 2 (.pointer (some ⟨W2.heap.size,0,none⟩)) rfl hH ?_;refine ah 3 (.pointer (some ⟨W2.heap.size,4,none⟩)) rfl hH ?_;refine ah 4 (.slice pa 1 pc) rfl hH ?_ (aH fun w' hw'=>by have c:=af.cell hw'.1 4;simp[fq] at c;go_simp);refine aG 5 rfl fun K hK=>?_;refine wp_store_row 31 _ _ rfl (w.heap.size+1) RC rfl rfl 31 bV (show af W5.drew _ _ _ from Z5.out) N9.out NQ.out NW.out ?_;have Z6:=ae (af (W5.drew.setRow (w.heap.size+1) RC) (w.heap.size+1) RC 31) (af.row (w:=W5.drew) Z5.out RC);have B6:=ae (Below w.heap.size w (W5.drew.setRow (w.heap.size+1) RC)) (below_setRow B5.out.drew (Nat.le_succ _) RC);have P6:=ae (aZ (W5.drew.setRow (w.heap.size+1) RC) w.heap.size 55 1 (.slice pa 1 pc) ([((x:Int),cs++replicate (512-cs.length) 0)].map bu) vs) (BO (W:=W5.drew) ((P5.out.below (ak.drew)).mono B3.out.size) (show af W5.drew _ _ _ from Z5.out) (by decide) (by decide));have J6:=ae (af (W5.drew.setRow (w.heap.size+1) RC) W2.heap.size (fq (.slice ia L ic) (.slice (some ⟨f,fo,none⟩) 1 fc) 1 (.slice pa 1 pc)) 70∧af (W5.drew.setRow (w.heap.size+1) RC) W4.heap.size RC 31) (⟨(setRow_other W5.drew _ _ RC (by have:=S3.out;omega)).trans J5.out,(setRow_other W5.drew _ _ RC (by have h1:=B3.out.size;have h2:=G4.out.size;have h3:=S3.out;have h4:=J3.out.lt;omega)).trans R5.out⟩);generalize W5.drew.setRow (w.heap.size+1) RC=W6 at Z6 B6 P6 J6⊢;refine hK.out _ _ J6.out (fun hH=>?_);clear hK K;try simp only[Act.put,av,ay,az,aA,aB,aC]
 refine ah 6 (.slice pa 1 pc) rfl hH ?_;refine ah 7 (.int .i64 0) rfl hH ?_;refine aV ?_;clear hH;go_wp2;refine bodyPost_ret (v:=.tuple #[.agg RC,.slice pa 1 pc,.int .i64 0]) ?_ rfl ⟨_,vs,?_,(by rw[HN.out];exact P6.out),B6.out⟩
 ·exact BW rfl _ _ (w.heap.size+1) 31 RC (0,0) _ _ _ rfl rfl rfl Z6.out underlying31 rfl N9.out
 ·rw[HRC.out,HN.out]
end
end Go.Proofs.YtpplnhkpcpieoaaGreatDoor
