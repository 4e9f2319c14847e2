/- The program's renew, over an empty tree -/
import Derived.Test.YtpplnhkpcpieoaaGreatDoorZx36
import Derived.Laws.RangeAny
import Derived.Outline
namespace Go.Proofs.YtpplnhkpcpieoaaGreatDoor
open Go.Proofs.Tryz
open _root_.List (replicate drop_zero nil_append take_of_length_le drop_append drop_of_length_le getD append_assoc map_append)
open _root_.Nat (le_of_lt xor_assoc xor_comm)
set_option linter.all false
set_option maxRecDepth 100000
set_option maxHeartbeats 16000000
section
open Go.RowKit Go.Shelf
abbrev bV:Array Value:=#[.int .i64 0,.int .i64 0,.int .i64 0,.int .i64 0,.int .i64 0,.int .i64 0,.int .i64 0,.int .i64 0,.int .i64 0,.int .i64 0,.int .i64 0,.int .i64 0,.int .i64 0,.int .i64 0,.int .i64 0]
abbrev lZ(iv:Value):Array Value:=#[iv,.int .i64 0,.int .i64 0,.int .i64 0,.int .i64 0,.int .i64 0,.int .i64 0,.int .i64 0,.int .i64 0,.int .i64 0,.int .i64 0,.int .i64 0,.int .i64 0,.int .i64 0,.int .i64 0,.int .i64 0]
abbrev sk(iv cv d0 d1 d2 fv:Value):Array Value:=#[iv,.int .i64 0,.int .i64 0,.int .i64 0,.int .i64 0,.int .i64 0,.int .i64 0,.int .i64 0,.int .i64 0,.int .i64 0,.int .i64 0,.int .i64 0,.int .i64 0,.int .i64 0,.int .i64 0,.int .i64 0,cv,d0,d1,d2,.slice none 0 0,.slice none 0 0,.slice none 0 0,fv,.slice none 0 0,.bool false]
theorem JI(ia:Option Addr)(il ic:Nat)(ca:Option Addr)(n cc:Nat)(a0:Option Addr)(n0 q0:Nat)(a1:Option Addr)(n1 q1:Nat)(a2:Option Addr)(n2 q2 ff:Nat)(lb:Array Value):
 prog.built 112 [(0,.agg (lZ (.slice ia il ic))),(1,.slice ca n cc),(2,.agg #[.slice a0 n0 q0,.slice a1 n1 q1,.slice a2 n2 q2]),(4,.func (.func ff) #[] lb)]=some (sk (.slice ia il ic) (.slice ca n cc) (.slice a0 n0 q0) (.slice a1 n1 q1) (.slice a2 n2 q2) (.func (.func ff) #[] lb)):=by kernel_rfl
theorem AF(n:Nat)(W:Int→Nat→Int)(Pv:Nat→Int):dz (fe 0 n W Pv)=([],false):=by
 have h:iS 0 n W Pv=fun _=>([],false):=by
  funext j;unfold iS;cases bT j<;>(unfold dO;rw[if_pos (.inl (Nat.zero_le _))])
 unfold fe;rw[h];rfl
def ij(iv cv:Value)(st:Option (List Int)):RD:={tr:=lZ iv,cv,Lo:=fun _=>[],Ln:=fun _=>[],P:=[],sh:=false,st}
def lz(iv cv:Value)(st:Option (List Int))(cs:List Int)(cnt:Nat):RD:=(dQ cnt 2 14).foldl (lX 1) ((dQ cnt 1 14).foldl (lX 0) ((dQ cnt 0 14).foldl (lq cs) (ij iv cv st)))
theorem JJ(ia:Option Addr)(il ic:Nat)(zs:List Int)(w:World)(h:Rd .u8 w (.slice ia il ic) zs)(hz:zs.length≤1048576)(hsz:dx zs.length=true):
 Calls prog 87 #[.slice ia il ic,.agg bV] w fun e w'=>e=.returned (.tuple #[.agg (lZ (.slice ia il ic)),.nilIface])∧Below w.heap.size w w':=by
 have:=Fb (.slice ia il ic) zs 0 (replicate 12 0) 0 0 w h hz rfl;refine Calls.mono (this:Calls prog 87 #[.slice ia il ic,.agg bV] w _) ?_;rintro e w' ⟨ev,rfl,hf,hb⟩;rw[hsz] at hf;have hr:cJ 0 (replicate 12 0) 0 0=true:=by decide
 rw[hr] at hf;rcases hf with⟨_,rfl⟩|⟨h1,_⟩
 ·exact⟨rfl,hb⟩
 ·cases h1
theorem JK(iv:Value)(zs:List Int)(w:World)(h:Rd .u8 w iv zs)(hz:zs.length≤1048576)(hbd:∀z∈zs,0≤z∧z<256):
 Calls prog 88 #[.agg (lZ iv)] w fun e w'=>∃a0 q0 a1 q1 a2 q2,e=.returned (.tuple #[.agg #[.slice a0 0 q0,.slice a1 0 q1,.slice a2 0 q2],.nilIface])∧(w'.ownsRow w.heap.size 3 1 (.slice a0 0 q0) 0 []∧w'.ownsRow w.heap.size 3 1 (.slice a1 0 q1) 0 []∧w'.ownsRow w.heap.size 3 1 (.slice a2 0 q2) 0 [])∧
  (∀l m,l<3→m<3→l≠m→((fun l=>if l=0 then Value.slice a0 0 q0 else if l=1 then .slice a1 0 q1 else .slice a2 0 q2) l).ownBlock=none∨((fun l=>if l=0 then Value.slice a0 0 q0 else if l=1 then .slice a1 0 q1 else .slice a2 0 q2) l).ownBlock≠((fun l=>if l=0 then Value.slice a0 0 q0 else if l=1 then .slice a1 0 q1 else .slice a2 0 q2) m).ownBlock)∧Below w.heap.size w w':=by
 refine(Gg 0 0 zs (lZ iv) (fun _=>0) iv w ([],false) rfl rfl (fun j hj=>?_) rfl h hz hbd (by omega) (by omega) (AF _ _ _).symm).mono ?_
 ·match j,hj with
  |0,_=>rfl
  |1,_=>rfl
  |2,_=>rfl
  |3,_=>rfl
  |4,_=>rfl
  |5,_=>rfl
  |6,_=>rfl
  |7,_=>rfl
  |8,_=>rfl
  |9,_=>rfl
  |10,_=>rfl
  |11,_=>rfl
  |12,_=>rfl
  |13,_=>rfl
 ·rintro e w' ⟨D,ev,rfl,hD,(⟨_,rfl,b,sl,hN⟩|⟨h1,_⟩),hb⟩
  ·have r0:=hN.row 0 (by omega);have r1:=hN.row 1 (by omega);have r2:=hN.row 2 (by omega);obtain⟨a0,q0,e0⟩:=bO r0;obtain⟨a1,q1,e1⟩:=bO r1;obtain⟨a2,q2,e2⟩:=bO r2;have hap:=hN.apart;obtain⟨d0,d1,d2,rfl⟩:∃d0 d1 d2,D=#[d0,d1,d2]:=by
    match D,hD with
    |⟨[d0,d1,d2]⟩,_=>exact⟨d0,d1,d2,rfl⟩
   have f0:d0=sl 0:=(by simpa using hN.at_ 0 (by omega));have f1:d1=sl 1:=(by simpa using hN.at_ 1 (by omega));have f2:d2=sl 2:=(by simpa using hN.at_ 2 (by omega));have hn:∀l,dR (aY []) l=[]:=fun l=>rfl;rw[hn] at r0 r1 r2 e0 e1 e2;refine⟨a0,q0,a1,q1,a2,q2,by rw[f0,f1,f2,e0,e1,e2];rfl,⟨by rw[e0] at r0;exact r0,by rw[e1] at r1;exact r1,by rw[e2] at r2;exact r2⟩,fun l m hl hm hne=>?_,hb⟩;have hs:∀l,l<3→(fun l=>if l=0 then Value.slice a0 0 q0 else if l=1 then .slice a1 0 q1 else .slice a2 0 q2) l=sl l:=fun l hl=>by
    match l,hl with
    |0,_=>exact e0.symm
    |1,_=>exact e1.symm
    |2,_=>exact e2.symm
   rw[hs l hl,hs m hm];exact hap l m hl hm hne
  ·cases h1
end
section
open Go.RowKit
theorem oF{P:Program}{ops:Array Oper}{rest:List Oper}{op:Oper}{a:Act}{w:World}{Q:Exit→Act→World→Prop}(hw:Region.wanted op (yielded ops a.tmps)=true)(ty:TypeId)(x:Operand)(ho:op.op=.load ty x)
 (b o:Nat) (hx:a.eval x=.pointer (some ⟨b,o,none⟩)) (cs:List Value) (d:TypeDesc) (hc:w.rangeAt b o cs)
 (hu:P.underlying ty=some d) (hd:d.isRow=true) (hi:(P.info? ty).map (·.size)=some cs.length)
 (h:wpList P ops Q rest (a.put op.dst (.agg cs.toArray)) w):wpList P ops Q (op::rest) a w:=
 Go.BigFrame.wpList_want hw fun _ hK=>wp_load_mid ty x ho b o hx cs d hc hu hd hi (hK _ _ h)
def wi(x lo hi:Int):Bool:=decide (lo≤x)&&decide (x≤hi)
theorem gQ{x lo hi:Int}(h:wi x lo hi=true):lo≤x∧x≤hi:=by simpa [wi] using h
theorem lA(x lo hi:Int)(w:World):Calls prog 9 #[.int .i64 x,.int .i64 lo,.int .i64 hi] w fun e w'=>e=.returned (.bool (wi x lo hi))∧w=w':=by
 by_cases h1:lo≤x
 ·have HR:=ae (wi x lo hi=decide (x≤hi)) (by simp[wi,h1]);go_enter func9,ntmps9;go_wp2;go_ret;exact⟨bX (by rw[HR.out]),rfl⟩
 ·have HR:=ae (wi x lo hi=false) (by simp[wi,h1]);have hq:decide (lo≤x)=false:=by simp[h1]
  go_enter func9,ntmps9;go_wp2;go_ret;exact⟨bX (by rw[HR.out]),rfl⟩
def AG(k0 k5:Int):Bool:=if k0=2 then wi k5 1 1000 else(k5==0)
def AH(k0 k1 k2 k3 k4 k5 k6 k7 k8:Int):Bool:=wi k0 1 3&&wi k1 1 1000&&wi k2 0 4095&&wi k3 0 65535&&wi k4 0 65535&&AG k0 k5&&wi k6 1 1099511627776&&wi k7 1 1099511627776&&wi k8 1 1099511627776
def nB(k0 k1 k2 k3 k4 k5 k6 k7 k8 s:Int)(ds:List Int)(p q:Int):Bool:=rf (dI [k0,k1,k2,k3,k4,k5,k6,k7,k8] s ds p q)||(AH k0 k1 k2 k3 k4 k5 k6 k7 k8&&cJ s ds p q)
def jK(s:Int):Bool:=decide (256≤s)&&(s%128==0)&&decide (s≤128128)
theorem AI(s:Int)(w:World):Calls prog 80 #[.int .i64 s] w fun e w'=>e=.returned (.bool (jK s))∧w=w':=by
 by_cases h1:256≤s
 ·cases h2:(s%128==0) with
  |true=>
   have HR:=ae (jK s=decide (s≤128128)) (by unfold jK;rw[h2,decide_eq_true h1];rfl);go_enter func80,ntmps80;go_wp2;go_ret;exact⟨bX (by rw[HR.out]),rfl⟩
  |false=>
   have HR:=ae (jK s=false) (by unfold jK;rw[h2,decide_eq_true h1];rfl);go_enter func80,ntmps80;go_wp2;go_ret;exact⟨bX (by rw[HR.out]),rfl⟩
 ·have hq:decide (256≤s)=false:=by simp[h1]
  have HR:=ae (jK s=false) (by unfold jK;rw[hq];rfl);go_enter func80,ntmps80;go_wp2;go_ret;exact⟨bX (by rw[HR.out]),rfl⟩
def bC(gen bl cu ck op ev lg s1:Int)(ds1:List Int)(p1 q1 s2:Int)(aq:List Int)(p2 q2:Int)(sn:List Int):List Int:=[gen,bl,cu,ck,op,ev,lg]++(aD s1 ds1 p1 q1++(aD s2 aq p2 q2++sn))
theorem sq(gen bl cu ck op ev lg s1:Int)(ds1:List Int)(p1 q1 s2:Int)(aq:List Int)(p2 q2:Int)(sn:List Int)(h1:ds1.length=12)(h2:aq.length=12)(h3:sn.length=31):(bC gen bl cu ck op ev lg s1 ds1 p1 q1 s2 aq p2 q2 sn).length=68:=by
 simp[bC,dw _ _ _ _ h1,dw _ _ _ _ h2,h3]
theorem vv:(prog.info? 52).map (·.size)=some 68:=by kernel_rfl
theorem AJ:(prog.info? 50).map (·.size)=some 31:=by kernel_rfl
theorem JL(gen bl cu ck op ev lg s1:Int)(ds1:List Int)(p1 q1 s2:Int)(aq:List Int)(p2 q2:Int)(sn:List Int)(h1:ds1.length=12):((bC gen bl cu ck op ev lg s1 ds1 p1 q1 s2 aq p2 q2 sn).drop 7).take 15=aD s1 ds1 p1 q1:=by
 have h:=dw s1 ds1 p1 q1 h1;unfold bC;rw[List.drop_append_of_le_length (by simp)];simp only[List.drop_succ_cons,drop_zero,nil_append];rw[List.take_append_of_le_length (by omega),take_of_length_le (by omega)]
theorem JM(gen bl cu ck op ev lg s1:Int)(ds1:List Int)(p1 q1 s2:Int)(aq:List Int)(p2 q2:Int)(sn:List Int)(h1:ds1.length=12)(h2:aq.length=12):((bC gen bl cu ck op ev lg s1 ds1 p1 q1 s2 aq p2 q2 sn).drop 22).take 15=aD s2 aq p2 q2:=by
 have h:=dw s1 ds1 p1 q1 h1;have h':=dw s2 aq p2 q2 h2;unfold bC;rw[drop_append,drop_of_length_le (by simp),nil_append,drop_append,drop_of_length_le (by simp;omega),nil_append];simp only[List.length_cons,List.length_nil,h];rw[drop_zero,List.take_append_of_le_length (by omega),take_of_length_le (by omega)]
theorem JN(gen bl cu ck op ev lg s1:Int)(ds1:List Int)(p1 q1 s2:Int)(aq:List Int)(p2 q2:Int)(sn:List Int)(h1:ds1.length=12)(h2:aq.length=12)(h3:sn.length=31):((bC gen bl cu ck op ev lg s1 ds1 p1 q1 s2 aq p2 q2 sn).drop 37).take 31=sn:=by
 have h:=dw s1 ds1 p1 q1 h1;have h':=dw s2 aq p2 q2 h2;unfold bC;rw[drop_append,drop_of_length_le (by simp),nil_append,drop_append,drop_of_length_le (by simp;omega),nil_append,drop_append,drop_of_length_le (by simp;omega),nil_append];simp only[List.length_cons,List.length_nil,h,h'];rw[drop_zero,take_of_length_le (by omega)]
theorem AK(gen bl cu ck op ev lg s1:Int)(ds1:List Int)(p1 q1 s2:Int)(aq:List Int)(p2 q2:Int)(sn:List Int)(h1:ds1.length=12):(an (bC gen bl cu ck op ev lg s1 ds1 p1 q1 s2 aq p2 q2 sn))[22]?=some (.int .i64 s2):=by
 have h:=dw s1 ds1 p1 q1 h1;unfold bC an;rw[List.getElem?_toArray,List.getElem?_map,List.getElem?_append_right (by simp),List.getElem?_append_right (by simp;omega)];simp[h,h1,aD]
theorem mM(gen bl cu ck op ev lg s1:Int)(ds1:List Int)(p1 q1 s2:Int)(aq:List Int)(p2 q2:Int)(sn:List Int)(h1:ds1.length=12){w:World}{b:Nat}{t:TypeId}(h:af w b (an (bC gen bl cu ck op ev lg s1 ds1 p1 q1 s2 aq p2 q2 sn)) t):w.rangeAt b 7 ((aD s1 ds1 p1 q1).map (Value.int .i64)):=by
 have hl:=dw s1 ds1 p1 q1 h1;have hr:=h.range 7 15 (by simp[bC,hl]);rw[JL _ _ _ _ _ _ _ _ _ _ _ _ _ _ _ _ h1] at hr;exact hr
theorem oH(gen bl cu ck op ev lg s1:Int)(ds1:List Int)(p1 q1 s2:Int)(aq:List Int)(p2 q2:Int)(sn:List Int)(h1:ds1.length=12)(h2:aq.length=12){w:World}{b:Nat}{t:TypeId}(h:af w b (an (bC gen bl cu ck op ev lg s1 ds1 p1 q1 s2 aq p2 q2 sn)) t):w.rangeAt b 22 ((aD s2 aq p2 q2).map (Value.int .i64)):=by
 have hl:=dw s1 ds1 p1 q1 h1;have hl':=dw s2 aq p2 q2 h2;have hr:=h.range 22 15 (by simp[bC,hl,hl'];omega);rw[JM _ _ _ _ _ _ _ _ _ _ _ _ _ _ _ _ h1 h2] at hr;exact hr
theorem su(gen bl cu ck op ev lg s1:Int)(ds1:List Int)(p1 q1 s2:Int)(aq:List Int)(p2 q2:Int)(sn:List Int)(h1:ds1.length=12)(h2:aq.length=12)(h3:sn.length=31){w:World}{b:Nat}{t:TypeId}(h:af w b (an (bC gen bl cu ck op ev lg s1 ds1 p1 q1 s2 aq p2 q2 sn)) t):w.rangeAt b 37 (sn.map (Value.int .i64)):=by
 have hr:=h.range 37 31 (by rw[sq _ _ _ _ _ _ _ _ _ _ _ _ _ _ _ _ h1 h2 h3];omega);rw[JN _ _ _ _ _ _ _ _ _ _ _ _ _ _ _ _ h1 h2 h3] at hr;exact hr
theorem AL(sn:List Int)(k:Nat)(hd:sn.length=31)(hk:k<31)(w:World):(Instr.index 50 (.agg (sn.map (Value.int .i64)).toArray) (.int .i64 k)).run prog w=.ok (.int .i64 (sn.getD k 0)) w:=by
 have hg:k<sn.length:=by omega
 simp[Instr.index,run_underlying underlying50,asIntOf,go_sem,hg];intro h;omega
def gu(lg:Int):Bool:=decide (lg=0)||(decide (8192≤lg)&&decide (lg≤65536))
theorem JO(lg:Int)(w:World):Calls prog 47 #[.int .i64 lg] w fun e w'=>e=.returned (.bool (gu lg))∧w=w':=by
 by_cases h0:lg=0
 ·subst h0;go_enter func47,ntmps47;go_wp2;go_ret;exact⟨rfl,rfl⟩
 ·have hq:(lg==0)=false:=by simp[h0]
  by_cases h1:8192≤lg
  ·have HLB:=ae (gu lg=decide (lg≤65536)) (by unfold gu;simp[h0,h1]);clear h0;go_enter func47,ntmps47;go_wp2;go_ret;exact⟨bX (by rw[HLB.out]),rfl⟩
  ·have HLB:=ae (gu lg=false) (by unfold gu;simp[h0,h1]);have hq2:decide (8192≤lg)=false:=(by simp;omega);clear h0;go_enter func47,ntmps47;go_wp2;go_ret;exact⟨bX (by first|rfl|rw[HLB.out]),rfl⟩
def lB(s bl:Int):Bool:=decide (s=4*bl)
def l5(sn:List Int)(bl:Int):Bool:=sn.all fun x=>cI x bl
def dM(gen bl cu ck op ev lg s1:Int)(ds1:List Int)(p1 q1 s2:Int)(aq:List Int)(p2 q2:Int)(sn:List Int):Bool:=wi gen 1 1099511627776&&wi ck 1 1099511627776&&wi op 0 1099511627776&&wi bl 64 2048&&(decide (2≤cu)&&decide (cu<bl))&&wi ev 0 1000&&gu lg&&(cJ s1 ds1 p1 q1&&jK s1)&&gE ds1 p1 q1 bl&&cJ s2 aq p2 q2&&gE aq p2 q2 bl&&lB s2 bl&&l5 sn bl
end
namespace Chk
open Go
end Chk
namespace Chk
open Go.RowKit
theorem gz{k:IntKind}{a b:Int}(h:a=b):Ending.returned (.int k a)=.returned (.int k b):=by rw[h]
end Chk
section
open Go.RowKit
theorem JP(xs ys:List Int):dA (xs++ys)=dA xs++dA ys:=by simp[dA]
theorem vw(g base k cap:Nat)(xs:List Value)(s:Int)(ds:List Int)(p q:Int)(w:World)(h:w.ownsRow base 5 1 (.slice (some ⟨g,0,none⟩) k cap) k xs)(hr:k+64≤cap)(hcap:cap≤1048576)(hd:ds.length=12)(hs:0≤s∧s≤262144)(hp:∀z∈ds++[p,q],0≤z∧z<2048):
 Calls prog 61 #[.slice (some ⟨g,0,none⟩) k cap,.agg (an (aD s ds p q))] w fun e w'=>e=.returned (.slice (some ⟨g,0,none⟩) (k+64) cap)∧w'.ownsRow base 5 1 (.slice (some ⟨g,0,none⟩) (k+64) cap) (k+64) (xs++(dH s ds p q).map (Value.int .u8))∧w.grownBy w' (some g):=by
 have HD:=aa hd;have hg:=(h.lt g rfl).2;obtain⟨n,hn⟩:=Int.eq_ofNat_of_zero_le hs.1;have hn2:n≤262144:=by omega
 have HN:=aa hn;have c0:(w.alloc (.cells (an (aD s ds p q)) 31)).cell? ⟨w.heap.size,0,none⟩=some (.int .i64 (n:Int)):=by
  rw[(af.new w _ _).cell 0, ←hn];rfl
 have hpp:=hp p (by simp);have hqq:=hp q (by simp);obtain⟨pn,hpn⟩:=Int.eq_ofNat_of_zero_le hpp.1;obtain⟨qn,Vn⟩:=Int.eq_ofNat_of_zero_le hqq.1;have hp2:pn<2048:=by omega
 have hq2:qn<2048:=by omega
 have HPQ:=aa (ai hpn Vn);have HP:=ae (∀z∈ds,0≤z∧z<2048) (fun z hz=>hp z (by simp[hz]));have HX:=aa (fun k hk w=>tL ds k HD.out hk w);have K:=aa (ai h (af.new w (an (aD s ds p q)) 31));have HBR:=ae (dH s ds p q=le 8 n++dA ds++le 4 pn++le 4 qn) (by
  unfold dH;rw[JP,hn,hpn,Vn];simp[dA])
 clear hd hs hp h hn hpp hqq hpn Vn;go_enter func61,ntmps61;go_wp2_with fail;refine(mY g base k cap n xs _ (K.out.1.alloc _) (by omega) (by omega) (by omega)).mono ?_;rintro e w1 ⟨rfl,o1,g1⟩;have hs1:=g1.size;rw[World.size_alloc] at hs1;have H1:=aa (ai o1 (ai (show af w1 w.heap.size (an (aD s ds p q)) 31 from(g1.block _ (by simp) (by simp;omega)).trans K.out.2) (gT (World.grownBy_alloc w _ (some g)) g1)));have HR:=ae (w1.rangeAt w.heap.size 1 (ds.map (Value.int .i64))) (by
  have hr:=H1.out.2.1.range 1 12 (by rw[dw _ _ _ _ HD.out];omega);rw[qJ _ _ _ _ HD.out] at hr;exact hr)
 clear o1 g1 c0;go_wp2_with (refine wpList_load_mid rfl 29 _ rfl w.heap.size 1 rfl (ds.map (Value.int .i64)) _ HR.out underlying29 rfl (by rw[List.length_map,HD.out];exact tF) ?_);go_loopw [0,14] (fun o i wr=>∃j:Nat,j≤12∧i=.int .i64 j∧o=.slice (some ⟨g,0,none⟩) (k+8+4*j) cap∧w.heap.size<wr.heap.size∧wr.ownsRow base 5 1 (.slice (some ⟨g,0,none⟩) (k+8+4*j) cap) (k+8+4*j) (xs++(le 8 n++dA (ds.take j)).map (Value.int .u8))∧af wr w.heap.size (an (aD s ds p q)) 31∧w.grownBy wr (some g)) (fun _ i _=>12-(intOf i).toNat)
 case atStart=>exact⟨0,by omega,rfl,rfl,by omega,by simpa [dA] using H1.out.1,H1.out.2.1,H1.out.2.2⟩
 case round=>
  clear H1 HR hs1;obtain⟨j,hj,rfl,rfl,hwr,hown,hblk,hgr⟩:=hrel;have HC:=aa (ai hown (ai hblk hgr));clear hown hblk hgr;by_cases hlt:j<12
  ·have hjl:j<ds.length:=(by rw[HD.out];exact hlt);have hix:∀w,(Instr.index 29 (.agg (ds.map (Value.int .i64)).toArray) (.int .i64 j)).run prog w=.ok (.int .i64 (ds.getD j 0)) w:=fun w=>HX.out j hlt w;have hz1:=HP.out (ds.getD j 0) (by simp[getD,hjl]);have HT:=aa (pG ds j hjl);clear hjl;generalize ds.getD j 0=z at hix HT hz1;obtain⟨y,rfl⟩:=Int.eq_ofNat_of_zero_le hz1.1;obtain⟨_,hy2⟩:=hz1;have hy:y<2048:=(by omega);clear hy2;rw[Int.toNat_natCast] at HT;go_wp2_with (go_at_call 60;fail);refine(jW g base (k+8+4*j) cap y _ _ HC.out.1 (by omega) (by omega) (by omega)).mono ?_;rintro e w2 ⟨rfl,o2,g2⟩;have hs2:=g2.size;have HW:=ae (w2.ownsRow base 5 1 (.slice (some ⟨g,0,none⟩) (k+8+4*(j+1)) cap) (k+8+4*(j+1)) (xs++(le 8 n++dA (ds.take (j+1))).map (Value.int .u8))∧af w2 w.heap.size (an (aD s ds p q)) 31∧w.grownBy w2 (some g)) (by
    refine⟨?_,(g2.block _ hwr (by simp;omega)).trans HC.out.2.1,gT HC.out.2.2 g2⟩;rw[HT.out, ←append_assoc,map_append, ←append_assoc,show k+8+4*(j+1)=k+8+4*j+4 by omega];exact o2)
   clear o2 g2;go_wp2;go_roundw
   case rel=>exact⟨j+1,by omega,by go_num,by rw[show k+8+4*(j+1)=k+8+4*j+4 by omega],by omega,HW.out.1,HW.out.2.1,HW.out.2.2⟩
   case measure=>simp[intOf];omega
  ·have e12:j=12:=(by omega);subst e12;have Ra:=(HC.out.2.1.cell 13).trans (qI s ds p q HD.out);rw[HPQ.out.1] at Ra;go_wp2_with (go_at_call 60;fail);refine(jW g base (k+8+4*12) cap pn _ _ HC.out.1 (by omega) (by omega) (by omega)).mono ?_;rintro e w2 ⟨rfl,o2,g2⟩;have hk2:af w2 w.heap.size (an (aD s ds p q)) 31:=(g2.block _ hwr (by simp;omega)).trans HC.out.2.1;have Ow:=(hk2.cell 14).trans (m0 s ds p q HD.out);rw[HPQ.out.2] at Ow;have H2:=aa (ai o2 (gT HC.out.2.2 g2));clear o2 g2 Ra hk2;go_wp2_with (go_at_call 60;fail);refine(jW g base (k+8+4*12+4) cap qn _ _ H2.out.1 (by omega) (by omega) (by omega)).mono ?_;rintro e w3 ⟨rfl,o3,g3⟩;have H3:=aa (ai o3 (gT H2.out.2 g3));clear o3 g3 Ow;go_wp2;go_ret;have ho:=H3.out.1;rw[take_of_length_le (by rw[HD.out];omega)] at ho;refine⟨rfl,?_,H3.out.2⟩;rw[HBR.out,map_append,map_append, ←append_assoc, ←append_assoc];exact ho
theorem JQ{ds:List Int}(h:ds.length=12):∃d0 d1 d2 d3 d4 d5 d6 d7 d8 d9 d10 d11,ds=[d0,d1,d2,d3,d4,d5,d6,d7,d8,d9,d10,d11]:=by
 match ds,h with|[d0,d1,d2,d3,d4,d5,d6,d7,d8,d9,d10,d11],_=>exact⟨d0,d1,d2,d3,d4,d5,d6,d7,d8,d9,d10,d11,rfl⟩
theorem JR{w1 w5:World}{b:Nat}{o:Obj}(hb:b<w1.heap.size)(g5:(w1.alloc o).drew.grownBy w5 (some w1.heap.size)):∀j,w5.cell? ⟨b,j,none⟩=w1.cell? ⟨b,j,none⟩:=fun j=>
 World.cell?_of_block (a:=⟨b,j,none⟩) ((g5.block b (show b<(w1.alloc o).heap.size by simp;omega) (by simp;omega)).trans (Below.heap_alloc w1 o b hb))
theorem vA{w w1 w5:World}{o:Obj}(g5:(w1.alloc o).drew.grownBy w5 (some w1.heap.size))(hs:w.heap.size≤w1.heap.size):Below w.heap.size w1 w5:=
 (((Below.refl w.heap.size w1).alloc hs o).drew).grown g5 (show w.heap.size≤(w1.alloc o).heap.size by simp;omega) (fun k h=>by cases h;exact hs)
theorem sx(g base k cap m:Nat)(xs:List Value)(w:World)(h:w.ownsRow base 5 1 (.slice (some ⟨g,0,none⟩) k cap) k xs)(hk:k≤m)(hm:m≤cap)(hcap:cap≤140737488355328):
 Calls prog 110 #[.slice (some ⟨g,0,none⟩) k cap,.int .i64 m] w fun e w'=>e=.returned (.slice (some ⟨g,0,none⟩) m cap)∧w'.ownsRow base 5 1 (.slice (some ⟨g,0,none⟩) m cap) m (xs++(replicate (m-k) (0:Int)).map (Value.int .u8))∧w.grownBy w' (some g):=by
 obtain⟨i0,hi,hz0,hz1,hz2⟩:=info_parts eO;have hgl:=h.lt g rfl;go_enter func110,ntmps110;go_wp2;go_loopw [0] (fun v wr=>∃j:Nat,k+j≤m∧v=.slice (some ⟨g,0,none⟩) (k+j) cap∧wr.ownsRow base 5 1 (.slice (some ⟨g,0,none⟩) (k+j) cap) (k+j) (xs++(replicate j (0:Int)).map (Value.int .u8))∧w.grownBy wr (some g)) (fun v _=>m-(match v with|.slice _ l _=>l|_=>0))
 case atStart=>exact⟨0,by omega,rfl,by simpa using h,World.grownBy.refl _ _⟩
 case round=>
  clear h;obtain⟨j,hj,rfl,hown,hgr⟩:=hrel;have hsz:=hgr.size;by_cases hlt:k+j<m
  ·go_wp2_with (at_builtin;refine wpList_append_fits _ rfl _ _ 22 rfl base 5 i0 1 underlying22 hi hz1 g (k+j) cap _ rfl (hown.alloc _) ⟨wr.heap.size,0,none⟩ 1 1 [.int .u8 0] rfl rfl (cell_one_new _ _ _) (mX _) (by omega) ?_;intro w1 hown1 aI);have HW:=ae (w1.ownsRow base 5 1 (.slice (some ⟨g,0,none⟩) (k+(j+1)) cap) (k+(j+1)) (xs++(replicate (j+1) (0:Int)).map (Value.int .u8))∧w.grownBy w1 (some g)) (by
    refine⟨?_,gT hgr (gT (World.grownBy_alloc _ _ _) aI)⟩;rw[List.replicate_succ',map_append, ←append_assoc];exact hown1)
   clear hown hown1 hgr aI;go_roundw
   case rel=>exact⟨j+1,by omega,rfl,HW.out.1,HW.out.2⟩
   case measure=>show m-(k+(j+1))<m-(k+j);omega
  ·have HO:=aa (ai hown hgr);have e:j=m-k:=(by omega);clear hown hgr;go_wp2;go_ret;have h2:=HO.out;rw[show k+j=m by omega,e] at h2;exact⟨by rw[show k+j=m by omega];rfl,h2.1,h2.2⟩
theorem JS(x:Int)(g base k cap n:Nat)(xs:List Value)(w:World)(hx:x=(n:Int))(h:w.ownsRow base 5 1 (.slice (some ⟨g,0,none⟩) k cap) k xs)(hr:k+1≤cap)(hcap:cap≤140737488355328)(hn:n<256):
 Calls prog 133 #[.slice (some ⟨g,0,none⟩) k cap,.int .u8 x] w fun e w'=>e=.returned (.slice (some ⟨g,0,none⟩) (k+1) cap)∧w'.ownsRow base 5 1 (.slice (some ⟨g,0,none⟩) (k+1) cap) (k+1) (xs++(le 1 n).map (Value.int .u8))∧w.grownBy w' (some g):=by
 subst hx;exact D8 g base k cap n xs w h hr hcap hn
theorem wrap_u8(n:Nat)(h:n<256):IntKind.u8.wrap (n:Int)=n:=by
 simp only[IntKind.wrap,IntKind.bits,IntKind.signed];simp;omega
def lC(a0 a1 a2 a3 a4 a5 a6 a7 a8:Nat)(s:Int)(ds:List Int)(p q:Int):List Int:=le 1 a0++replicate 1 0++le 2 a1++le 2 a2++le 2 a3++le 2 a4++replicate 2 0++le 4 a5++le 8 a6++le 8 a7++le 8 a8++dH s ds p q++replicate 24 0
theorem JT(a0 a1 a2 a3 a4 a5 a6 a7 a8:Nat)(s:Int)(ds:List Int)(p q:Int)(hd:ds.length=12):(lC a0 a1 a2 a3 a4 a5 a6 a7 a8 s ds p q).length=128:=by
 unfold lC;simp only[List.length_append,fR,List.length_replicate,mu s ds p q hd]
structure Li(w wr:World)(g k:Nat)(xs:List Int)(C:Array Value)(t:TypeId):Prop where
 own:wr.ownsRow w.heap.size 5 1 (.slice (some ⟨g,0,none⟩) k 128) k (xs.map (Value.int .u8))
 blk:af wr w.heap.size C t
 old:Below w.heap.size w wr
 lt:w.heap.size<g
theorem Li.step{w wr w':World}{g k k':Nat}{xs ys:List Int}{C:Array Value}{t:TypeId}(h:Li w wr g k xs C t)(ho:w'.ownsRow w.heap.size 5 1 (.slice (some ⟨g,0,none⟩) k' 128) k' (xs.map (Value.int .u8)++ys.map (Value.int .u8)))(hg:wr.grownBy w' (some g)):Li w w' g k' (xs++ys) C t:=
 ⟨by rw[map_append];exact ho,(hg.block _ h.blk.lt (by have:=h.lt;simp;omega)).trans h.blk,h.old.grown hg h.old.size (fun k e=>by cases e;exact le_of_lt h.lt),h.lt⟩
theorem JU(w:World):(Instr.makeSlice 22 (.int .i64 0) (.int .i64 128)).run prog w=.ok (.slice (some ⟨w.heap.size,0,none⟩) 0 128) (w.alloc (.cells (Array.replicate 128 (.int .u8 0)) 5)):=by kernel_rfl
theorem JV(a0 a1 a2 a3 a4 a5 a6 a7 a8:Nat)(s:Int)(ds:List Int)(p q:Int)(w:World)(hd:ds.length=12)(h0:a0<256)(h1:a1<65536)(h2:a2<65536)(h3:a3<65536)(h4:a4<65536)(h5:a5<4294967296)(h6:a6<281474976710656)(h7:a7<281474976710656)(h8:a8<281474976710656)(hs:0≤s∧s≤262144)(hp:∀z∈ds++[p,q],0≤z∧z<2048):
 Calls prog 95 #[.agg (an (dI [(a0:Int),(a1:Int),(a2:Int),(a3:Int),(a4:Int),(a5:Int),(a6:Int),(a7:Int),(a8:Int)] s ds p q))] w fun e w'=>∃v',e=.returned v'∧w'.ownsRow w.heap.size 5 1 v' 128 ((lC a0 a1 a2 a3 a4 a5 a6 a7 a8 s ds p q).map (Value.int .u8))∧Below w.heap.size w w':=by
 have HD:=aa hd;have Rk:=aa (ai hs hp);have HLen:=ae ((an (aD s ds p q)).size=15) (by rw[ct];exact dw s ds p q HD.out);have HBY:=ae (lC a0 a1 a2 a3 a4 a5 a6 a7 a8 s ds p q=_) rfl;obtain⟨w1,hw1⟩:∃w1,w1=w.alloc (.cells (an (dI [(a0:Int),(a1:Int),(a2:Int),(a3:Int),(a4:Int),(a5:Int),(a6:Int),(a7:Int),(a8:Int)] s ds p q)) 33):=⟨_,rfl⟩;have K0:=ae (af w1 w.heap.size (an (dI [(a0:Int),(a1:Int),(a2:Int),(a3:Int),(a4:Int),(a5:Int),(a6:Int),(a7:Int),(a8:Int)] s ds p q)) 33∧Below w.heap.size w w1) (by rw[hw1];exact⟨af.new w _ _,ak.alloc aj _⟩);have hlt:w.heap.size<w1.heap.size:=K0.out.1.lt;have q0:w1.cell? ⟨w.heap.size,0,none⟩=some (.int .i64 (a0:Int)):=(K0.out.1.cell 0).trans rfl;have hmk:=JU;have OWN:=aa (World.ownsRow_made (base:=w1.heap.size) (e:=5) (size:=1) w1 (Array.replicate 128 (.int .u8 0)) 128 aj (by unfold maxLen;omega) (by simp));have HW:=aa hw1;clear hd hs hp hw1;go_enter func95,ntmps95;go_wp2;rw[←HW.out];go_region_held (fun w'=>w'.cell? ⟨w.heap.size,0,none⟩=some (.int .i64 (a0:Int))) (go_keep) ((go_at_call 133;refine(JS (IntKind.u8.wrap (a0:Int)) w1.heap.size w1.heap.size 0 128 a0 [] _ (wrap_u8 a0 h0) OWN.out.drew (by omega) (by omega) h0).mono ?_;rintro e w2 ⟨rfl,o2,g2⟩;have re:=JR hlt g2))
 have L1:=ae (Li w w2 w1.heap.size 1 (le 1 a0) (an (dI [(a0:Int),(a1:Int),(a2:Int),(a3:Int),(a4:Int),(a5:Int),(a6:Int),(a7:Int),(a8:Int)] s ds p q)) 33) (⟨cH (by simpa using o2) (le_of_lt hlt),((g2.block _ (show w.heap.size<(w1.alloc _).heap.size by simp;omega) (by simp;omega)).trans (Below.heap_alloc w1 _ _ hlt)).trans K0.out.1,K0.out.2.trans (vA g2 (le_of_lt hlt)),hlt⟩);clear o2 g2 re q0 hmk;go_wp2_with fail;refine(sx w1.heap.size w.heap.size 1 128 2 _ _ L1.out.own (by omega) (by omega) (by omega)).mono ?_;rintro e w3 ⟨rfl,o3,g3⟩;have L2:=aa (L1.out.step o3 g3);clear o3 g3 L1;have c1:=(L2.out.blk.cell 1).trans (show(an (dI [(a0:Int),(a1:Int),(a2:Int),(a3:Int),(a4:Int),(a5:Int),(a6:Int),(a7:Int),(a8:Int)] s ds p q))[1]?=some (.int .i64 (a1:Int)) from rfl);go_wp2_with (go_at_call 134;fail);refine(qG w1.heap.size w.heap.size 2 128 a1 _ _ L2.out.own (by omega) (by omega) h1).mono ?_;rintro e w4 ⟨rfl,o4,g4⟩;have L3:=aa (L2.out.step o4 g4);clear o4 g4 L2 c1;have c2:=(L3.out.blk.cell 2).trans (show(an (dI [(a0:Int),(a1:Int),(a2:Int),(a3:Int),(a4:Int),(a5:Int),(a6:Int),(a7:Int),(a8:Int)] s ds p q))[2]?=some (.int .i64 (a2:Int)) from rfl);go_wp2_with (go_at_call 134;fail);refine(qG w1.heap.size w.heap.size 4 128 a2 _ _ L3.out.own (by omega) (by omega) h2).mono ?_;rintro e w5 ⟨rfl,o5,g5⟩;have L4:=aa (L3.out.step o5 g5);clear o5 g5 L3 c2;have c3:=(L4.out.blk.cell 3).trans (show(an (dI [(a0:Int),(a1:Int),(a2:Int),(a3:Int),(a4:Int),(a5:Int),(a6:Int),(a7:Int),(a8:Int)] s ds p q))[3]?=some (.int .i64 (a3:Int)) from rfl);go_wp2_with (go_at_call 134;fail);refine(qG w1.heap.size w.heap.size 6 128 a3 _ _ L4.out.own (by omega) (by omega) h3).mono ?_;rintro e w6 ⟨rfl,o6,g6⟩;have L5:=aa (L4.out.step o6 g6);clear o6 g6 L4 c3;have c4:=(L5.out.blk.cell 4).trans (show(an (dI [(a0:Int),(a1:Int),(a2:Int),(a3:Int),(a4:Int),(a5:Int),(a6:Int),(a7:Int),(a8:Int)] s ds p q))[4]?=some (.int .i64 (a4:Int)) from rfl);go_wp2_with (go_at_call 134;fail);refine(qG w1.heap.size w.heap.size 8 128 a4 _ _ L5.out.own (by omega) (by omega) h4).mono ?_;rintro e w7 ⟨rfl,o7,g7⟩;have L6:=aa (L5.out.step o7 g7);clear o7 g7 L5 c4;go_wp2_with fail;refine(sx w1.heap.size w.heap.size 10 128 12 _ _ L6.out.own (by omega) (by omega) (by omega)).mono ?_;rintro e w8 ⟨rfl,o8,g8⟩;have L7:=aa (L6.out.step o8 g8);clear o8 g8 L6;have c5:=(L7.out.blk.cell 5).trans (show(an (dI [(a0:Int),(a1:Int),(a2:Int),(a3:Int),(a4:Int),(a5:Int),(a6:Int),(a7:Int),(a8:Int)] s ds p q))[5]?=some (.int .i64 (a5:Int)) from rfl);go_wp2_with (go_at_call 60;fail);refine(jW w1.heap.size w.heap.size 12 128 a5 _ _ L7.out.own (by omega) (by omega) h5).mono ?_;rintro e w9 ⟨rfl,o9,g9⟩;have L8:=aa (L7.out.step o9 g9);clear o9 g9 L7 c5;have c6:=(L8.out.blk.cell 6).trans (show(an (dI [(a0:Int),(a1:Int),(a2:Int),(a3:Int),(a4:Int),(a5:Int),(a6:Int),(a7:Int),(a8:Int)] s ds p q))[6]?=some (.int .i64 (a6:Int)) from rfl);go_wp2_with (go_at_call 59;fail);refine(mY w1.heap.size w.heap.size 16 128 a6 _ _ L8.out.own (by omega) (by omega) h6).mono ?_;rintro e je ⟨rfl,OF,g10⟩;have L9:=aa (L8.out.step OF g10);clear OF g10 L8 c6;have c7:=(L9.out.blk.cell 7).trans (show(an (dI [(a0:Int),(a1:Int),(a2:Int),(a3:Int),(a4:Int),(a5:Int),(a6:Int),(a7:Int),(a8:Int)] s ds p q))[7]?=some (.int .i64 (a7:Int)) from rfl);go_wp2_with (go_at_call 59;fail);refine(mY w1.heap.size w.heap.size 24 128 a7 _ _ L9.out.own (by omega) (by omega) h7).mono ?_;rintro e NX ⟨rfl,o11,g11⟩;have TP:=aa (L9.out.step o11 g11);clear o11 g11 L9 c7;have c8:=(TP.out.blk.cell 8).trans (show(an (dI [(a0:Int),(a1:Int),(a2:Int),(a3:Int),(a4:Int),(a5:Int),(a6:Int),(a7:Int),(a8:Int)] s ds p q))[8]?=some (.int .i64 (a8:Int)) from rfl);go_wp2_with (go_at_call 59;fail);refine(mY w1.heap.size w.heap.size 32 128 a8 _ _ TP.out.own (by omega) (by omega) h8).mono ?_;rintro e nx ⟨rfl,N8,g12⟩;have XQ:=aa (TP.out.step N8 g12);clear N8 g12 TP c8;have HR:=aa (FZ (a0:Int) (a1:Int) (a2:Int) (a3:Int) (a4:Int) (a5:Int) (a6:Int) (a7:Int) (a8:Int) s ds p q HD.out XQ.out.blk);go_wp2_with (first|(refine wpList_load_mid rfl 31 _ rfl w.heap.size 9 rfl ((aD s ds p q).map (Value.int .i64)) _ HR.out underlying31 rfl (by rw[List.length_map, ←ct,HLen.out];exact dV) ?_)|(go_at_call 61;fail));refine(vw w1.heap.size w.heap.size 40 128 _ s ds p q _ XQ.out.own (by omega) (by omega) HD.out Rk.out.1 Rk.out.2).mono ?_;rintro e OI ⟨rfl,UC,g13⟩;have L12:=aa (XQ.out.step UC g13);clear UC g13 XQ HR;go_wp2_with fail;refine(sx w1.heap.size w.heap.size 104 128 128 _ _ L12.out.own (by omega) (by omega) (by omega)).mono ?_;rintro e XB ⟨rfl,Rm,g14⟩;have L13:=aa (L12.out.step Rm g14);clear Rm g14 L12;go_wp2;go_ret;exact⟨_,rfl,L13.out.own,L13.out.old⟩
end
namespace aM
def js(n:Nat):Nat:=if n%2=1 then(n/2)^^^3988292384 else n/2
def rep:Nat→Nat→Nat
 |0,n=>n
 |k+1,n=>rep k (js n)
theorem JW(a b:Nat):js (a^^^b)=js a^^^js b:=by
 unfold js;have hm:(a^^^b)%2=(a+b)%2:=by
  have h:=Nat.xor_mod_two_eq_one (a:=a) (b:=b);omega
 rw[Nat.xor_div_two,hm];rcases Nat.mod_two_eq_zero_or_one a with ha|ha<;>rcases Nat.mod_two_eq_zero_or_one b with hb|hb
 ·rw[if_neg (by omega),if_neg (by omega),if_neg (by omega)]
 ·rw[if_pos (by omega),if_neg (by omega),if_pos (by omega),xor_assoc]
 ·rw[if_pos (by omega),if_pos (by omega),if_neg (by omega),xor_assoc,xor_assoc,xor_comm (b/2)]
 ·rw[if_neg (by omega),if_pos (by omega),if_pos (by omega)];rw[xor_assoc,xor_comm (b/2), ←xor_assoc 3988292384,Nat.xor_self,Nat.zero_xor]
theorem AM:∀(k a b:Nat),rep k (a^^^b)=rep k a^^^rep k b
 |0,_,_=>rfl
 |k+1,a,b=>by simp only[rep];rw[JW,AM k]
theorem AN:∀(k q:Nat),rep k (2^k*q)=q
 |0,q=>by simp[rep]
 |k+1,q=>by
  have:js (2^(k+1)*q)=2^k*q:=by
   have e:2^(k+1)*q=2*(2^k*q):=(by rw[Nat.pow_succ,Nat.mul_comm (2^k) 2,Nat.mul_assoc]);unfold js;rw[e,if_neg (by omega)];omega
  simp only[rep];rw[this,AN k]
theorem JX(x:Nat):x=(2^8*(x/256))^^^(x%256):=by
 have h:(2^8*(x/256))^^^(x%256)=2^8*(x/256)+x%256:=by
  apply Nat.eq_of_testBit_eq;intro i;rw[Nat.testBit_xor,Nat.testBit_two_pow_mul_add _ (by omega),Nat.testBit_two_pow_mul];by_cases hi:i<8
  ·rw[if_pos hi];have:¬(8≤i):=(by omega);simp[this]
  ·rw[if_neg hi];have:(x%256).testBit i=false:=Nat.testBit_lt_two_pow (Nat.lt_of_lt_of_le (Nat.mod_lt _ (by decide)) (Nat.pow_le_pow_right (n:=2) (by decide) (by omega:8≤i)));rw[this];simp;omega
 rw[h];omega
theorem JY(x:Nat):rep 8 x=(x/256)^^^rep 8 (x%256):=by
 conv=>lhs;rw[JX x]
 rw[AM,AN]
theorem JZ(r c:Nat)(hc:c<256):(r^^^c)/256=r/256:=by
 have:=Nat.xor_div_two_pow (a:=r) (b:=c) (n:=8);rw[show(2:Nat)^8=256 from rfl] at this;rw[this,Nat.div_eq_of_lt hc,Nat.xor_zero]
theorem byte_eq(r c:Nat)(hc:c<256):(r/256)^^^rep 8 ((r^^^c)%256)=rep 8 (r^^^c):=by
 rw[JY (r^^^c),JZ r c hc]
theorem J0(n:Nat)(h:n<4294967296):js n<4294967296:=by
 unfold js;split
 ·exact Nat.xor_lt_two_pow (n:=32) (by omega) (by decide)
 ·omega
theorem vB:∀(k n:Nat),n<4294967296→rep k n<4294967296
 |0,_,h=>h
 |k+1,n,h=>vB k _ (J0 n h)
theorem oI(a b:Nat)(ha:a<4294967296)(hb:b<4294967296):a^^^b<4294967296:=Nat.xor_lt_two_pow (n:=32) ha hb
def sB(r:Nat)(c:Int):Nat:=rep 8 (r^^^c.toNat)
def iI(zs:List Int):Nat:=zs.foldl sB 4294967295
def crc(zs:List Int):Nat:=iI zs^^^4294967295
theorem J1(zs:List Int)(hz:∀z∈zs,0≤z∧z<256):iI zs<4294967296:=by
 unfold iI;suffices ∀(r:Nat),r<4294967296→zs.foldl sB r<4294967296 from this _ (by decide)
 induction zs with
 |nil=>intro r h;exact h
 |cons z zs ih=>
  intro r h;rw[List.foldl_cons];have:=hz z (by simp);exact ih (fun y hy=>hz y (by simp[hy])) _ (vB _ _ (oI _ _ h (by omega)))
theorem J2(zs:List Int)(z:Int):iI (zs++[z])=sB (iI zs) z:=by simp[iI]
theorem AO(zs:List Int)(k:Nat)(h:k<zs.length):iI (zs.take (k+1))=sB (iI (zs.take k)) (zs.getD k 0):=by
 rw[List.take_succ_eq_append_getElem h,J2];simp[getD,h]
end aM
section
open Go.RowKit
theorem AP(y:Nat)(hy:y<4294967296):bits .xor .u32 ((y:Int)/2) 3988292384=((y/2^^^3988292384:Nat):Int):=by
 have h:=u32_xor_nat (y/2) 3988292384 (by omega) (by omega);simpa using h
theorem AQ(y k:Nat)(hk:k<8)(h:((y:Int)%2==1)=true):aM.rep (8-(k+1)) (y/2^^^3988292384)=aM.rep (8-k) y:=by
 have e:8-k=(8-(k+1))+1:=by omega
 have hm:y%2=1:=by simp at h;omega
 rw[e];show _=aM.rep (8-(k+1)) (aM.js y);rw[aM.js,if_pos hm]
theorem AR(y k:Nat)(hk:k<8)(h:((y:Int)%2==1)=false):aM.rep (8-(k+1)) (y/2)=aM.rep (8-k) y:=by
 have e:8-k=(8-(k+1))+1:=by omega
 have hm:¬y%2=1:=by simp at h;omega
 rw[e];show _=aM.rep (8-(k+1)) (aM.js y);rw[aM.js,if_neg hm]
theorem AS(y:Nat)(hy:y<4294967296):y/2^^^3988292384<4294967296:=aM.oI _ _ (by omega) (by omega)
theorem J7(r:Nat)(hr:r<4294967296):bits .xor .u32 IntKind.u32.max (r:Int)=((r^^^4294967295:Nat):Int):=by
 have e:IntKind.u32.max=((4294967295:Nat):Int):=by decide
 rw[e,u32_xor_nat 4294967295 r (by omega) hr,xor_comm]
theorem J8(y:Nat)(hy:y<4294967296):bits .and .u32 (y:Int) 1=(y:Int)%2:=by
 have h:=u32_and_nat y 1 hy (by omega);rw[Nat.and_one_is_mod] at h;simpa using h
theorem J9(x:Nat)(w:World)(hx:x<4294967296):
 Calls prog 117 #[.int .u32 x] w fun e w'=>e=.returned (.int .u32 (aM.rep 8 x))∧w'=w:=by
 go_enter func117,ntmps117;go_wp2;go_loop [0,3] (fun v i=>∃k y:Nat,k≤8∧i=.int .i64 k∧v=.int .u32 y∧y<4294967296∧aM.rep (8-k) y=aM.rep 8 x) (fun _ i=>8-(intOf i).toNat)
 case atStart=>exact⟨0,x,by omega,rfl,rfl,hx,rfl⟩
 case round=>
  obtain⟨k,y,hk,rfl,rfl,hy,he⟩:=hrel;have HE:Hid (aM.rep (8-k) y=aM.rep 8 x):=he;clear he;by_cases hlt:k<8
  ·have hx:=AP y hy;have hyl:=AS y hy;go_wp2
   ·go_round
    case rel=>exact⟨k+1,_,by omega,by go_num,rfl,hyl,by rw[AQ y k hlt ‹_›];exact HE.out⟩
    case measure=>simp[intOf];omega
   ·go_round
    case rel=>exact⟨k+1,y/2,by omega,by go_num,by go_num,by omega,by rw[AR y k hlt ‹_›];exact HE.out⟩
    case measure=>simp[intOf];omega
  ·go_wp2;go_ret;have e:8-k=0:=(by omega);have h:=HE.out;rw[e] at h;exact⟨gz (by rw[←h];rfl),rfl⟩
theorem Ka(v:Value)(zs:List Int)(w:World)(h:Rd .u8 w v zs)(hz:∀z∈zs,0≤z∧z<256):
 Calls prog 111 #[v] w fun e w'=>e=.returned (.int .u32 (aM.crc zs))∧w'=w:=by
 have hm:=h.len;unfold maxLen at hm;rcases h.parts with⟨a,cap,rfl,hlow⟩|⟨b,off,cap,rfl,hbw,hcell⟩;all_goals
  clear h;go_enter func111,ntmps111;go_wp2;go_loop [3,9] (fun v i=>∃k r:Nat,k≤zs.length∧i=.int .i64 k∧v=.int .u32 r∧r<4294967296∧r=aM.iI (zs.take k)) (fun _ i=>zs.length-(intOf i).toNat)
  case atStart=>exact⟨0,4294967295,by omega,rfl,rfl,by omega,rfl⟩
  case round=>
   obtain⟨k,r,hk,rfl,rfl,hr,he⟩:=hrel;have HE:Hid (r=aM.iI (zs.take k)):=he;clear he;by_cases hlt:k<zs.length
   ·first
    |omega
    |(
     have c1:=hcell k hlt;have HF:Hid (aM.iI (zs.take (k+1))=aM.rep 8 (r^^^(zs.getD k 0).toNat)):=(by rw[aM.AO zs k hlt, ←HE.out];rfl);have hz1:=hz (zs.getD k 0) (by simp[getD,hlt]);clear hcell hz;generalize zs.getD k 0=z at c1 HF hz1;obtain⟨c,rfl⟩:=Int.eq_ofNat_of_zero_le hz1.1;obtain⟨_,hc2⟩:=hz1;have hc:c<256:=(by omega);clear hc2;have hmod:(c:Int)%4294967296=c:=(by omega);have hx:=u32_xor_nat r c hr (by omega);have hy0:=aM.oI r c hr (by omega);rw[Int.toNat_natCast] at HF;generalize r^^^c=x at hx hy0 HF;go_wp2;go_loop [3,17] (fun v i=>∃j y:Nat,j≤8∧i=.int .i64 j∧v=.int .u32 y∧y<4294967296∧aM.rep (8-j) y=aM.rep 8 x) (fun _ i=>8-(intOf i).toNat)
     case atStart=>exact⟨0,x,by omega,rfl,rfl,hy0,rfl⟩
     case round=>
      obtain⟨j,y,hj,rfl,rfl,hy,he⟩:=hrel;have HY:Hid (aM.rep (8-j) y=aM.rep 8 x):=he;clear he;have hx2:=AP y hy;have hl2:=J8 y hy;by_cases hjt:j<8
      ·have hyl:=AS y hy;go_wp2
       ·go_round
        case rel=>exact⟨j+1,_,by omega,by go_num,rfl,hyl,by rw[AQ y j hjt ‹_›];exact HY.out⟩
        case measure=>simp[intOf];omega
       ·go_round
        case rel=>exact⟨j+1,y/2,by omega,by go_num,by go_num,by omega,by rw[AR y j hjt ‹_›];exact HY.out⟩
        case measure=>simp[intOf];omega
      ·have HQ:Hid (y=aM.iI (zs.take (k+1))):=by
        have e:8-j=0:=(by omega);have h:=HY.out;rw[e] at h;rw[HF.out, ←h];rfl
       go_wp2;go_round
       case rel=>exact⟨k+1,y,by omega,by go_num,rfl,hy,HQ.out⟩
       case measure=>simp[intOf];omega)
   ·have hx:=J7 r hr;go_wp2;go_ret;have e1:=HE.out;rw[take_of_length_le (by omega)] at e1;exact⟨gz (by rw[aM.crc, ←e1]),rfl⟩
theorem Kb(v:Value)(zs:List Int)(w:World)(h:Rd .u8 w v zs)(hz:∀z∈zs,0≤z∧z<256):
 Calls prog 81 #[v] w fun e w'=>e=.returned (.int .u32 (aM.crc zs))∧w'=w:=by
 have hm:=h.len;unfold maxLen at hm;rcases h.parts with⟨a,cap,rfl,hlow⟩|⟨b,off,cap,rfl,hbw,hcell⟩;all_goals
  clear h;go_enter func81,ntmps81;go_wp2;go_loop [3,8] (fun v i=>∃k r:Nat,k≤zs.length∧i=.int .i64 k∧v=.int .u32 r∧r<4294967296∧r=aM.iI (zs.take k)) (fun _ i=>zs.length-(intOf i).toNat)
  case atStart=>exact⟨0,4294967295,by omega,rfl,rfl,by omega,rfl⟩
  case round=>
   obtain⟨k,r,hk,rfl,rfl,hr,he⟩:=hrel;have HE:Hid (r=aM.iI (zs.take k)):=he;clear he;by_cases hlt:k<zs.length
   ·first
    |omega
    |(
     have c1:=hcell k hlt;have HF:Hid (aM.iI (zs.take (k+1))=aM.rep 8 (r^^^(zs.getD k 0).toNat)):=(by rw[aM.AO zs k hlt, ←HE.out];rfl);have hz1:=hz (zs.getD k 0) (by simp[getD,hlt]);clear hcell hz;generalize zs.getD k 0=z at c1 HF hz1;obtain⟨c,rfl⟩:=Int.eq_ofNat_of_zero_le hz1.1;obtain⟨_,hc2⟩:=hz1;have hc:c<256:=(by omega);clear hc2;have hmod:(c:Int)%4294967296=c:=(by omega);have hx:=u32_xor_nat r c hr (by omega);have hy0:=aM.oI r c hr (by omega);rw[Int.toNat_natCast] at HF;have HB:=aM.byte_eq r c hc;have HG:Hid (aM.iI (zs.take (k+1))=(r/256)^^^aM.rep 8 ((r^^^c)%256)):=HF.out.trans HB.symm;clear HF HB;generalize r^^^c=x at hx hy0 HG;have hc8:((x:Int)%256)=((x%256:Nat):Int):=(by omega);have hrl:=aM.vB 8 (x%256) (by omega);generalize x%256=x8 at hc8 HG hrl;have hq:bits .xor .u32 ((r:Int)/256) ((aM.rep 8 x8:Nat):Int)=((r/256^^^aM.rep 8 x8:Nat):Int):=by
      have h:=u32_xor_nat (r/256) (aM.rep 8 x8) (by omega) hrl;simpa using h
     have Q9:=aM.oI (r/256) (aM.rep 8 x8) (by omega) hrl;go_wp2_with (go_at_call 117;refine(J9 x8 _ (by omega)).mono ?_;rintro e w' ⟨rfl,rfl⟩);go_round
     case rel=>exact⟨k+1,_,by omega,by go_num,rfl,Q9,HG.out.symm⟩
     case measure=>simp[intOf];omega)
   ·have hx:=u32_xor_nat r 4294967295 hr (by omega);go_wp2;go_ret;have e1:=HE.out;rw[take_of_length_le (by omega)] at e1;exact⟨gz (by rw[aM.crc, ←e1];simpa using hx),rfl⟩
end
end Go.Proofs.YtpplnhkpcpieoaaGreatDoor
