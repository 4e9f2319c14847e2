/- The program's renew: a tree opened and its numbers told, for any right root -/
import Derived.Test.YtbhpealglhkodaaGreatDoorXc40
import Derived.Test.YtbhpealglhkodaaGreatDoorXc41
namespace Go.Proofs.YtbhpealglhkodaaGreatDoor
set_option linter.all false
set_option maxRecDepth 100000
set_option maxHeartbeats 16000000
section
open Go.RowKit Go.Shelf
abbrev rootY(g:Nat→Int):Array Value:=#[.int .i64 (g 0),.int .i64 (g 1),.int .i64 (g 2),.int .i64 (g 3),.int .i64 (g 4),.int .i64 (g 5),.int .i64 (g 6),.int .i64 (g 7),.int .i64 (g 8),.int .i64 (g 9),.int .i64 (g 10),.int .i64 (g 11),.int .i64 (g 12),.int .i64 (g 13),.int .i64 (g 14)]
abbrev treeY(iv:Value)(g:Nat→Int):Array Value:=#[iv,.int .i64 (g 0),.int .i64 (g 1),.int .i64 (g 2),.int .i64 (g 3),.int .i64 (g 4),.int .i64 (g 5),.int .i64 (g 6),.int .i64 (g 7),.int .i64 (g 8),.int .i64 (g 9),.int .i64 (g 10),.int .i64 (g 11),.int .i64 (g 12),.int .i64 (g 13),.int .i64 (g 14)]
abbrev renY(iv:Value)(g:Nat→Int)(cv d0 d1 d2 fv:Value):Array Value:=#[iv,.int .i64 (g 0),.int .i64 (g 1),.int .i64 (g 2),.int .i64 (g 3),.int .i64 (g 4),.int .i64 (g 5),.int .i64 (g 6),.int .i64 (g 7),.int .i64 (g 8),.int .i64 (g 9),.int .i64 (g 10),.int .i64 (g 11),.int .i64 (g 12),.int .i64 (g 13),.int .i64 (g 14),cv,d0,d1,d2,.slice none 0 0,.slice none 0 0,.slice none 0 0,fv,.slice none 0 0,.bool false]
theorem built_renY(g:Nat→Int)(ia:Option Addr)(il ic:Nat)(ca:Option Addr)(n cc:Nat)(a0:Option Addr)(n0 q0:Nat)(a1:Option Addr)(n1 q1:Nat)(a2:Option Addr)(n2 q2 ff:Nat)(lb:Array Value):
 Tryz.prog.built 79 [(0,.agg (treeY (.slice ia il ic) g)),(1,.slice ca n cc),(2,.agg #[.slice a0 n0 q0,.slice a1 n1 q1,.slice a2 n2 q2]),(4,.func (.func ff) #[] lb)]=some (renY (.slice ia il ic) g (.slice ca n cc) (.slice a0 n0 q0) (.slice a1 n1 q1) (.slice a2 n2 q2) (.func (.func ff) #[] lb)):=by kernel_rfl
def rootN(s:Int)(ds:List Int)(p q:Int):Nat→Int:=fun k=>(rootI s ds p q).getD k 0
theorem root_cells(s:Int)(ds:List Int)(p q:Int)(hd:ds.length=12):cellsI (rootI s ds p q)=rootY (rootN s ds p q):=by
 match ds,hd with
 |[d0,d1,d2,d3,d4,d5,d6,d7,d8,d9,d10,d11],_=>rfl
theorem tree_cells(iv:Value)(s:Int)(ds:List Int)(p q:Int)(hd:ds.length=12):treT iv (rootI s ds p q)=treeY iv (rootN s ds p q):=by
 match ds,hd with
 |[d0,d1,d2,d3,d4,d5,d6,d7,d8,d9,d10,d11],_=>rfl
def rDO(iv cv:Value)(g:Nat→Int)(Lo:Nat→List Int)(st:Option (List Int)):RD:={tr:=treeY iv g,cv,Lo,Ln:=fun _=>[],P:=[],sh:=false,st}
def rEO(img:List Int)(cs:List Int)(cnt:Nat)(D:RD):RD:=(levelV cnt 2 14).foldl (stepPO img 1) ((levelV cnt 1 14).foldl (stepPO img 0) ((levelV cnt 0 14).foldl (stepDO img cs) D))
theorem openO_any(ia:Option Addr)(il ic:Nat)(zs:List Int)(s:Int)(ds:List Int)(p q:Int)(g:Nat→Int)(w:World)(h:Rd .u8 w (.slice ia il ic) zs)(hz:zs.length≤1048576)(hd:ds.length=12)(hg:g=rootN s ds p q)(hok:okR zs s ds p q=true):
 Calls Tryz.prog 52 #[.slice ia il ic,.agg (rootY g)] w fun e w'=>e=.returned (.tuple #[.agg (treeY (.slice ia il ic) g),.nilIface])∧Below w.heap.size w w':=by
 have:=openTreeL_any (.slice ia il ic) zs s ds p q w h hz hd;rw[root_cells s ds p q hd,tree_cells _ s ds p q hd, ←hg] at this;refine this.mono ?_;rintro e w' ⟨ev,rfl,hf,hb⟩;unfold okR at hok;rw[hok] at hf;rcases hf with⟨_,rfl⟩|⟨h1,_⟩
 ·exact⟨rfl,hb⟩
 ·cases h1
theorem numO_any(iv:Value)(zs:List Int)(s:Int)(ds:List Int)(p q:Int)(g:Nat→Int)(Lo:Nat→List Int)(n0 n1 n2:Nat)(w:World)(h:Rd .u8 w iv zs)(hz:zs.length≤1048576)(hbd:∀z∈zs,0≤z∧z<256)(hd:ds.length=12)(hg:g=rootN s ds p q)(hs0:0≤s)(hs1:s≤262144)(hZ:(ZR zs s ds p q).2=false)(hLo:Lo=numL (upX (ZR zs s ds p q).1))(h0:n0=(Lo 0).length)(h1:n1=(Lo 1).length)(h2:n2=(Lo 2).length):
 Calls Tryz.prog 62 #[.agg (treeY iv g)] w fun e w'=>∃a0 q0 a1 q1 a2 q2,e=.returned (.tuple #[.agg #[.slice a0 n0 q0,.slice a1 n1 q1,.slice a2 n2 q2],.nilIface])∧(w'.ownsRow w.heap.size 3 1 (.slice a0 n0 q0) n0 ((Lo 0).map (Value.int .i64))∧w'.ownsRow w.heap.size 3 1 (.slice a1 n1 q1) n1 ((Lo 1).map (Value.int .i64))∧w'.ownsRow w.heap.size 3 1 (.slice a2 n2 q2) n2 ((Lo 2).map (Value.int .i64)))∧
  (∀l m,l<3→m<3→l≠m→((fun l=>if l=0 then Value.slice a0 n0 q0 else if l=1 then .slice a1 n1 q1 else .slice a2 n2 q2) l).ownBlock=none∨((fun l=>if l=0 then Value.slice a0 n0 q0 else if l=1 then .slice a1 n1 q1 else .slice a2 n2 q2) l).ownBlock≠((fun l=>if l=0 then Value.slice a0 n0 q0 else if l=1 then .slice a1 n1 q1 else .slice a2 n2 q2) m).ownBlock)∧Below w.heap.size w w':=by
 have hsN:s=((s.toNat:Nat):Int):=by omega
 refine(numberedL_any ((s.toNat+511)/512) s.toNat zs (treeY iv g) (fun j=>(ds++[p,q]).getD j 0) iv w (ZR zs s ds p q) rfl ?_ (fun j hj=>?_) rfl h hz hbd (by omega) rfl rfl).mono ?_
 ·rw[←hsN,hg];rfl
 ·rw[hg];match ds,hd,j,hj with
  |[d0,d1,d2,d3,d4,d5,d6,d7,d8,d9,d10,d11],_,0,_=>rfl
  |[d0,d1,d2,d3,d4,d5,d6,d7,d8,d9,d10,d11],_,1,_=>rfl
  |[d0,d1,d2,d3,d4,d5,d6,d7,d8,d9,d10,d11],_,2,_=>rfl
  |[d0,d1,d2,d3,d4,d5,d6,d7,d8,d9,d10,d11],_,3,_=>rfl
  |[d0,d1,d2,d3,d4,d5,d6,d7,d8,d9,d10,d11],_,4,_=>rfl
  |[d0,d1,d2,d3,d4,d5,d6,d7,d8,d9,d10,d11],_,5,_=>rfl
  |[d0,d1,d2,d3,d4,d5,d6,d7,d8,d9,d10,d11],_,6,_=>rfl
  |[d0,d1,d2,d3,d4,d5,d6,d7,d8,d9,d10,d11],_,7,_=>rfl
  |[d0,d1,d2,d3,d4,d5,d6,d7,d8,d9,d10,d11],_,8,_=>rfl
  |[d0,d1,d2,d3,d4,d5,d6,d7,d8,d9,d10,d11],_,9,_=>rfl
  |[d0,d1,d2,d3,d4,d5,d6,d7,d8,d9,d10,d11],_,10,_=>rfl
  |[d0,d1,d2,d3,d4,d5,d6,d7,d8,d9,d10,d11],_,11,_=>rfl
  |[d0,d1,d2,d3,d4,d5,d6,d7,d8,d9,d10,d11],_,12,_=>rfl
  |[d0,d1,d2,d3,d4,d5,d6,d7,d8,d9,d10,d11],_,13,_=>rfl
 ·rintro e w' ⟨D,ev,rfl,hD,(⟨_,rfl,b,sl,hN⟩|⟨h1,_⟩),hb⟩
  ·rw[←hLo] at hN;have r0:=hN.row 0 (by omega);have r1:=hN.row 1 (by omega);have r2:=hN.row 2 (by omega);rw[←h0] at r0;rw[←h1] at r1;rw[←h2] at r2;obtain⟨a0,q0,e0⟩:=own_shape r0;obtain⟨a1,q1,e1⟩:=own_shape r1;obtain⟨a2,q2,e2⟩:=own_shape r2;have hap:=hN.apart;obtain⟨d0,d1,d2,rfl⟩:∃d0 d1 d2,D=#[d0,d1,d2]:=by
    match D,hD with
    |⟨[d0,d1,d2]⟩,_=>exact⟨d0,d1,d2,rfl⟩
   have f0:d0=sl 0:=(by simpa using hN.at_ 0 (by omega));have f1:d1=sl 1:=(by simpa using hN.at_ 1 (by omega));have f2:d2=sl 2:=(by simpa using hN.at_ 2 (by omega));refine⟨a0,q0,a1,q1,a2,q2,by rw[f0,f1,f2,e0,e1,e2],⟨by rw[e0] at r0;exact r0,by rw[e1] at r1;exact r1,by rw[e2] at r2;exact r2⟩,fun l m hl hm hne=>?_,hb⟩;have hs:∀l,l<3→(fun l=>if l=0 then Value.slice a0 n0 q0 else if l=1 then .slice a1 n1 q1 else .slice a2 n2 q2) l=sl l:=fun l hl=>by
    match l,hl with
    |0,_=>exact e0.symm
    |1,_=>exact e1.symm
    |2,_=>exact e2.symm
   rw[hs l hl,hs m hm];exact hap l m hl hm hne
  ·rw[hZ] at h1;cases h1
theorem rSt_newO(W0 W:World)(b:Nat)(iv cv:Value)(g:Nat→Int)(Lo:Nat→List Int)(a0:Option Addr)(n0 q0:Nat)(a1:Option Addr)(n1 q1:Nat)(a2:Option Addr)(n2 q2:Nat)(fv:Value)(st:Option (List Int))(hl:Below W0.heap.size W0 W)(hlo:W0.heap.size≤b)(h0:n0=(Lo 0).length)(h1:n1=(Lo 1).length)(h2:n2=(Lo 2).length)
 (hb:Blk W b (renY iv g cv (.slice a0 n0 q0) (.slice a1 n1 q1) (.slice a2 n2 q2) fv) 79)
 (hr:W.ownsRow W0.heap.size 3 1 (.slice a0 n0 q0) n0 ((Lo 0).map (Value.int .i64))∧W.ownsRow W0.heap.size 3 1 (.slice a1 n1 q1) n1 ((Lo 1).map (Value.int .i64))∧W.ownsRow W0.heap.size 3 1 (.slice a2 n2 q2) n2 ((Lo 2).map (Value.int .i64)))
 (ha:∀l m,l<3→m<3→l≠m→((fun l=>if l=0 then Value.slice a0 n0 q0 else if l=1 then .slice a1 n1 q1 else .slice a2 n2 q2) l).ownBlock=none∨((fun l=>if l=0 then Value.slice a0 n0 q0 else if l=1 then .slice a1 n1 q1 else .slice a2 n2 q2) l).ownBlock≠((fun l=>if l=0 then Value.slice a0 n0 q0 else if l=1 then .slice a1 n1 q1 else .slice a2 n2 q2) m).ownBlock)
 (hs:Sup W0 W fv st):RSt W0 W b (rDO iv cv g Lo st):=by
 refine⟨_,fun l=>if l=0 then Value.slice a0 n0 q0 else if l=1 then .slice a1 n1 q1 else .slice a2 n2 q2,fun _=>.slice none 0 0,fv,.slice none 0 0,[],⟨rfl,rfl,fun i hi=>?_,rfl,⟨hb,fun l hl=>?_,fun l hl=>?_,ha⟩,⟨hb,fun l hl=>?_,fun l hl=>World.ownsRow_nil _ _ _ _,fun l m _ _ _=>.inl rfl⟩,fun l m _ _=>?_,rfl,hs,rfl,OwnN.nil _ _ _ _,rfl,hlo,hl⟩⟩
 ·match i,hi with
  |0,_=>rfl
  |1,_=>rfl
  |2,_=>rfl
  |3,_=>rfl
  |4,_=>rfl
  |5,_=>rfl
  |6,_=>rfl
  |7,_=>rfl
  |8,_=>rfl
  |9,_=>rfl
  |10,_=>rfl
  |11,_=>rfl
  |12,_=>rfl
  |13,_=>rfl
  |14,_=>rfl
  |15,_=>rfl
  |k+16,h=>exact absurd h (by omega)
 ·match l,hl with
  |0,_=>rfl
  |1,_=>rfl
  |2,_=>rfl
 ·match l,hl with
  |0,_=>show W.ownsRow _ _ _ _ (Lo 0).length _;rw[←h0];exact hr.1
  |1,_=>show W.ownsRow _ _ _ _ (Lo 1).length _;rw[←h1];exact hr.2.1
  |2,_=>show W.ownsRow _ _ _ _ (Lo 2).length _;rw[←h2];exact hr.2.2
 ·match l,hl with
  |0,_=>rfl
  |1,_=>rfl
  |2,_=>rfl
 ·generalize ((fun l=>if l=0 then Value.slice a0 n0 q0 else if l=1 then .slice a1 n1 q1 else .slice a2 n2 q2) l).ownBlock=o;cases o with
  |none=>exact .inl rfl
  |some g=>exact .inr (by intro e;cases e)
end
section
open Go.RowKit Go.Shelf
def mkB(cs:List Int)(Ln:Nat→List Int):Nat→Nat→List Int
 |0,r=>padB cs r
 |l+1,r=>encW (wordsN Ln l r)
def zB(cs:List Int)(Ln:Nat→List Int):Nat→Nat→Bool
 |0,r=>decide (padB cs r=List.replicate 512 0)
 |l+1,r=>decide (wordsN Ln l r=List.replicate 128 0)
def eB(img cs:List Int)(Lo Ln:Nat→List Int):Nat→Nat→Bool
 |0,r=>decide ((Lo 0).getD r 0≠0∧padB cs r=blkP img ((Lo 0).getD r 0))
 |l+1,r=>decide ((Lo (l+1)).getD r 0≠0∧wordsN Ln l r=wrdsP img ((Lo (l+1)).getD r 0))
theorem mkB_s(cs:List Int)(Ln:Nat→List Int)(l r:Nat):mkB cs Ln (l+1) r=encW (wordsN Ln l r):=rfl
theorem zB_0(cs:List Int)(Ln:Nat→List Int)(r:Nat):zB cs Ln 0 r=decide (padB cs r=List.replicate 512 0):=rfl
theorem zB_s(cs:List Int)(Ln:Nat→List Int)(l r:Nat):zB cs Ln (l+1) r=decide (wordsN Ln l r=List.replicate 128 0):=rfl
theorem eB_0(img cs:List Int)(Lo Ln:Nat→List Int)(r:Nat):eB img cs Lo Ln 0 r=decide ((Lo 0).getD r 0≠0∧padB cs r=blkP img ((Lo 0).getD r 0)):=rfl
theorem eB_s(img cs:List Int)(Lo Ln:Nat→List Int)(l r:Nat):eB img cs Lo Ln (l+1) r=decide ((Lo (l+1)).getD r 0≠0∧wordsN Ln l r=wrdsP img ((Lo (l+1)).getD r 0)):=rfl
def stepO(img cs:List Int)(D:RD)(p:Nat×Nat):RD:=D.placeO p.1 p.2 (zB cs D.Ln p.1 p.2) (eB img cs D.Lo D.Ln p.1 p.2) (mkB cs D.Ln p.1 p.2)
def runO(img cs:List Int)(Q:List (Nat×Nat))(D:RD):RD:=Q.foldl (stepO img cs) D
def lvN(cnt l:Nat):Nat:=if l=0 then cnt else if l=1 then(cnt+115)/128 else if 140<cnt then 1 else 0
def spL(cnt:Nat):List (Nat×Nat):=(List.range (lvN cnt 0)).map (fun r=>(0,r))++((List.range (lvN cnt 1)).map (fun r=>(1,r))++(List.range (lvN cnt 2)).map (fun r=>(2,r)))
theorem rEO_run(img cs:List Int){cnt:Nat}(h:cnt≤512)(D:RD):rEO img cs cnt D=runO img cs (spL cnt) D:=by
 unfold rEO runO spL;have e2:(if 140<cnt then [0] else [])=List.range (lvN cnt 2):=by unfold lvN;split<;>rfl
 rw[List.foldl_append,List.foldl_append,List.foldl_map,List.foldl_map,List.foldl_map,(level_at h).1,(level_at h).2.1,(level_at h).2.2,e2];rfl
theorem sp_mem{cnt:Nat}{p:Nat×Nat}:p∈spL cnt↔p.1<3∧p.2<lvN cnt p.1:=by
 obtain⟨l,r⟩:=p;unfold spL;simp only[List.mem_append,List.mem_map,List.mem_range,Prod.mk.injEq];constructor
 ·rintro (⟨a,h,rfl,rfl⟩|⟨a,h,rfl,rfl⟩|⟨a,h,rfl,rfl⟩)
  ·exact⟨by decide,h⟩
  ·exact⟨by decide,h⟩
  ·exact⟨by decide,h⟩
 ·rintro ⟨h1,h2⟩;match l,h1,h2 with
  |0,_,h2=>exact .inl ⟨r,h2,rfl,rfl⟩
  |1,_,h2=>exact .inr (.inl ⟨r,h2,rfl,rfl⟩)
  |2,_,h2=>exact .inr (.inr ⟨r,h2,rfl,rfl⟩)
def SpO(p q:Nat×Nat):Prop:=p≠q∧p.1≤q.1
theorem sp_level(l m:Nat):((List.range m).map (fun r=>(l,r))).Pairwise SpO:=by
 rw[List.pairwise_map];refine List.Pairwise.imp (fun {a b} (h:a<b)=>?_) List.pairwise_lt_range;exact⟨fun e=>by have:=congrArg Prod.snd e;simp at this;omega,Nat.le_refl _⟩
theorem sp_two{l l' m m':Nat}(h:l<l'):∀p∈(List.range m).map (fun r=>(l,r)),∀q∈(List.range m').map (fun r=>(l',r)),SpO p q:=by
 intro p hp q hq;obtain⟨a,_,rfl⟩:=List.mem_map.1 hp;obtain⟨b,_,rfl⟩:=List.mem_map.1 hq;exact⟨fun e=>by have:=congrArg Prod.fst e;simp at this;omega,by show l≤l';omega⟩
theorem sp_ord(cnt:Nat):(spL cnt).Pairwise SpO:=by
 unfold spL;rw[List.pairwise_append,List.pairwise_append];refine⟨sp_level _ _,⟨sp_level _ _,sp_level _ _,sp_two (by decide)⟩,fun p hp q hq=>?_⟩;rcases List.mem_append.1 hq with hq|hq
 ·exact sp_two (by decide) p hp q hq
 ·exact sp_two (by decide) p hp q hq
section
variable (D:RD) (l r:Nat) (z e:Bool) (ys:List Int)
theorem placeO_at(l' r':Nat):((D.placeO l r z e ys).Ln l').getD r' 0=if l'=l∧r'=r then(if z=true then 0 else if e=true then(D.Lo l).getD r 0 else supN D.st) else(D.Ln l').getD r' 0:=by
 have k:∀(E:RD) (x:Int),E.Ln=D.Ln→((E.setNow l r x).Ln l').getD r' 0=if l'=l∧r'=r then x else(D.Ln l').getD r' 0:=fun E x he=>by
  unfold RD.setNow;show((upd E.Ln l (setN (E.Ln l) r x)) l').getD r' 0=_;rw[he];by_cases h:l'=l
  ·subst h;rw[upd_same,setN_getDP];by_cases h2:r'=r
   ·rw[if_pos h2,if_pos ⟨rfl,h2⟩]
   ·rw[if_neg h2,if_neg (fun e=>h2 e.2)]
  ·rw[upd_other _ _ _ _ h,if_neg (fun e=>h e.1)]
 have hf:(D.fresh ys).Ln=D.Ln:=by unfold RD.fresh;split<;>rfl
 unfold RD.placeO;cases z with
 |true=>exact k D 0 rfl
 |false=>
  cases e with
  |true=>exact k D _ rfl
  |false=>exact k _ _ hf
theorem placeO_len(l':Nat):((D.placeO l r z e ys).Ln l').length=if l'=l then max (D.Ln l).length (r+1) else(D.Ln l').length:=by
 have k:∀(E:RD) (x:Int),E.Ln=D.Ln→((E.setNow l r x).Ln l').length=if l'=l then max (D.Ln l).length (r+1) else(D.Ln l').length:=fun E x he=>by
  unfold RD.setNow;show((upd E.Ln l (setN (E.Ln l) r x)) l').length=_;rw[he];by_cases h:l'=l
  ·subst h;rw[upd_same,setN_len,if_pos rfl]
  ·rw[upd_other _ _ _ _ h,if_neg h]
 have hf:(D.fresh ys).Ln=D.Ln:=by unfold RD.fresh;split<;>rfl
 unfold RD.placeO;cases z with
 |true=>exact k D 0 rfl
 |false=>
  cases e with
  |true=>exact k D _ rfl
  |false=>exact k _ _ hf
theorem placeO_sh:(D.placeO l r z e ys).sh=(D.sh||(!z&&!e&&!supB D.st)):=by
 unfold RD.placeO RD.fresh RD.setNow;cases z<;>cases e<;>cases h:supB D.st<;>simp
theorem placeO_P:(D.placeO l r z e ys).P=if(z||e||!supB D.st)=true then D.P else D.P++[(supN D.st,ys)]:=by
 unfold RD.placeO RD.fresh RD.setNow;cases z<;>cases e<;>cases h:supB D.st<;>simp
theorem placeO_st:(D.placeO l r z e ys).st=if(z||e)=true then D.st else supT D.st:=by
 unfold RD.placeO RD.fresh RD.setNow;cases z<;>cases e<;>cases h:supB D.st<;>simp
end
section
variable (img cs:List Int)
theorem run_cons(p:Nat×Nat)(Q:List (Nat×Nat))(D:RD):runO img cs (p::Q) D=runO img cs Q (stepO img cs D p):=rfl
theorem run_append(A B:List (Nat×Nat))(D:RD):runO img cs (A++B) D=runO img cs B (runO img cs A D):=List.foldl_append
theorem run_keep{l r:Nat}:∀(Q:List (Nat×Nat)) (D:RD),(l,r)∉Q→((runO img cs Q D).Ln l).getD r 0=(D.Ln l).getD r 0
 |[],_,_=>rfl
 |p::Q,D,h=>by
  rw[run_cons,run_keep Q _ (fun e=>h (List.mem_cons_of_mem _ e))];unfold stepO;rw[placeO_at,if_neg (fun e=>h (by rw[e.1,e.2];exact List.mem_cons_self))]
theorem run_words{l r:Nat}(Q:List (Nat×Nat))(D:RD)(h:∀q∈Q,q.1≠l):wordsN (runO img cs Q D).Ln l r=wordsN D.Ln l r:=by
 unfold wordsN;refine List.map_congr_left (fun k _=>run_keep img cs Q D (fun e=>h _ e rfl))
theorem run_Lo:∀(Q:List (Nat×Nat)) (D:RD),(runO img cs Q D).Lo=D.Lo
 |[],_=>rfl
 |p::Q,D=>by rw[run_cons,run_Lo Q];exact placeO_Lo ..
theorem run_sh:∀(Q:List (Nat×Nat)) (D:RD),D.sh=true→(runO img cs Q D).sh=true
 |[],_,h=>h
 |p::Q,D,h=>by
  rw[run_cons];refine run_sh Q _ ?_;unfold stepO;rw[placeO_sh,h,Bool.true_or]
theorem run_P:∀(Q:List (Nat×Nat)) (D:RD),∃E,(runO img cs Q D).P=D.P++E
 |[],_=>⟨[],(List.append_nil _).symm⟩
 |p::Q,D=>by
  obtain⟨E,hE⟩:=run_P Q (stepO img cs D p);rw[run_cons,hE];unfold stepO;rw[placeO_P];split
  ·exact⟨E,rfl⟩
  ·exact⟨_::E,by rw[List.append_assoc];rfl⟩
theorem zme_same{Lo Ln Ln':Nat→List Int}{l r:Nat}(h:∀k,l=k+1→wordsN Ln k r=wordsN Ln' k r):zB cs Ln l r=zB cs Ln' l r∧eB img cs Lo Ln l r=eB img cs Lo Ln' l r∧mkB cs Ln l r=mkB cs Ln' l r:=by
 cases l with
 |zero=>exact⟨rfl,rfl,rfl⟩
 |succ l=>
  have e:=h l rfl;refine⟨?_,?_,?_⟩
  ·rw[zB_s,zB_s,e]
  ·rw[eB_s,eB_s,e]
  ·rw[mkB_s,mkB_s,e]
def Placed(D:RD)(l r:Nat):Prop:=if zB cs D.Ln l r=true then(D.Ln l).getD r 0=0 else if eB img cs D.Lo D.Ln l r=true then(D.Ln l).getD r 0=(D.Lo l).getD r 0 else((D.Ln l).getD r 0,mkB cs D.Ln l r)∈D.P
theorem run_placed{Q:List (Nat×Nat)}{D:RD}(hQ:Q.Pairwise SpO)(hsh:(runO img cs Q D).sh=false):∀p∈Q,Placed img cs (runO img cs Q D) p.1 p.2:=by
 rintro ⟨l,r⟩ hp;obtain⟨A,B,rfl⟩:=List.append_of_mem hp;have hB:=(List.pairwise_cons.1 (List.pairwise_append.1 hQ).2.1).1;rw[run_append,run_cons] at hsh⊢;obtain⟨E,hE⟩:∃E,E=runO img cs A D:=⟨_,rfl⟩;rw[←hE] at hsh⊢;obtain⟨F,hF⟩:∃F,F=stepO img cs E (l,r):=⟨_,rfl⟩;rw[←hF] at hsh⊢;have hFs:F.sh=false:=by
  cases h:F.sh with
  |false=>rfl
  |true=>rw[run_sh img cs B F h] at hsh;cases hsh
 have hat:((runO img cs B F).Ln l).getD r 0=(F.Ln l).getD r 0:=run_keep img cs B F (fun e=>(hB _ e).1 rfl);obtain⟨z1,z2,z3⟩:=zme_same img cs (Lo:=E.Lo) (Ln:=(runO img cs B F).Ln) (Ln':=E.Ln) (l:=l) (r:=r) (fun k hk=>by
  rw[run_words img cs B F (fun q hq e=>by have:=(hB q hq).2;simp at this;omega)];unfold wordsN;refine List.map_congr_left (fun j _=>?_);rw[hF];unfold stepO;rw[placeO_at,if_neg (fun e=>by have:=e.1;simp at this;omega)])
 have hLo:(runO img cs B F).Lo=E.Lo:=by rw[run_Lo,hF];exact placeO_Lo ..
 obtain⟨X,hX⟩:=run_P img cs B F;unfold Placed;show if zB cs (runO img cs B F).Ln l r=true then _ else _;rw[hLo,z1,z2,z3,hat];have hFat:(F.Ln l).getD r 0=if zB cs E.Ln l r=true then 0 else if eB img cs E.Lo E.Ln l r=true then(E.Lo l).getD r 0 else supN E.st:=by
  rw[hF];unfold stepO;rw[placeO_at,if_pos ⟨rfl,rfl⟩]
 have hFsh:=hFs;rw[hF] at hFsh;unfold stepO at hFsh;rw[placeO_sh] at hFsh;have hFP:F.P=if(zB cs E.Ln l r||eB img cs E.Lo E.Ln l r||!supB E.st)=true then E.P else E.P++[(supN E.st,mkB cs E.Ln l r)]:=by
  rw[hF];unfold stepO;rw[placeO_P]
 cases hz:zB cs E.Ln l r with
 |true=>rw[hFat,hz];rfl
 |false=>
  cases he:eB img cs E.Lo E.Ln l r with
  |true=>rw[hFat,hz,he];rfl
  |false=>
   rw[if_neg (by decide),if_neg (by decide),hX,List.mem_append];left;rw[hz,he] at hFat hFP;have hb:supB E.st=true:=by
    simp only[hz,he] at hFsh;cases h:supB E.st with
    |true=>rfl
    |false=>rw[h] at hFsh;simp at hFsh
   rw[hb] at hFP;rw[hFP,hFat];simp
def TookO(fs:List Int)(D:RD):Prop:=D.sh=false→D.st=some (fs.drop D.P.length)∧D.P.map (·.1)=fs.take D.P.length∧D.P.length≤fs.length
theorem took_step{fs:List Int}{D:RD}(h:TookO fs D)(l r:Nat)(z e:Bool)(ys:List Int):TookO fs (D.placeO l r z e ys):=by
 intro hs;rw[placeO_sh,Bool.or_eq_false_iff] at hs;obtain⟨h1,h2,h3⟩:=h hs.1;rw[placeO_st,placeO_P];cases hz:z||e with
 |true=>
  rw[if_pos (by rfl),if_pos (by rfl)];exact⟨h1,h2,h3⟩
 |false=>
  rw[Bool.or_eq_false_iff] at hz;have hb:supB D.st=true:=by
   have:=hs.2;rw[hz.1,hz.2] at this;cases h:supB D.st with
   |true=>rfl
   |false=>rw[h] at this;simp at this
  rw[hb,if_neg (by decide),if_neg (by decide),List.length_append,List.map_append,h2];rw[h1] at hb⊢;cases hd:fs.drop D.P.length with
  |nil=>rw[hd] at hb;cases hb
  |cons x xs=>
   have hlt:D.P.length<fs.length:=by
    refine Nat.lt_of_not_le (fun hle=>?_);rw[List.drop_eq_nil_of_le hle] at hd;cases hd
   have hx:fs[D.P.length]=x:=by
    have e:fs.drop D.P.length=fs[D.P.length]::fs.drop (D.P.length+1):=List.drop_eq_getElem_cons hlt;rw[hd] at e;exact(List.cons.inj e).1.symm
   refine⟨?_,?_,by simp;omega⟩
   ·show some xs=_;rw[←List.drop_drop,hd];rfl
   ·rw[List.length_singleton,List.take_succ_eq_append_getElem hlt,hx];rfl
theorem run_took{fs:List Int}:∀(Q:List (Nat×Nat)) (D:RD),TookO fs D→TookO fs (runO img cs Q D)
 |[],_,h=>h
 |p::Q,D,h=>run_took Q _ (took_step h _ _ _ _ _)
def NumR(fs:List Int)(a b:Int):Prop:=(a=b∧b∉fs∧0≤b)∨(a= -1∧b∈fs)
structure RelO(fs:List Int)(A B:RD):Prop where
 sh:B.sh=false
 len:A.P.length=B.P.length
 ll:∀l,(A.Ln l).length=(B.Ln l).length
 num:∀l r,NumR fs ((A.Ln l).getD r 0) ((B.Ln l).getD r 0)
def RelS(fs:List Int)(A B:RD):Prop:=(A.Lo=B.Lo∧A.st=none∧A.sh=false)∧TookO fs B∧((B.sh=true∧fs.length<A.P.length)∨RelO fs A B)
theorem rel_words{fs:List Int}{A B:RD}(hf:∀x∈fs,2≤x)(h:RelO fs A B)(l r:Nat)(vs:List Int)(hv:vs.length=128)(hvs:∀v∈vs,v∉fs∧0≤v):wordsN A.Ln l r=vs↔wordsN B.Ln l r=vs:=by
 have key:∀k,k<128→((A.Ln l).getD (belR l r k) 0=vs.getD k 0↔(B.Ln l).getD (belR l r k) 0=vs.getD k 0):=fun k hk=>by
  have hm:vs.getD k 0∉fs∧0≤vs.getD k 0:=by
   have:vs.getD k 0=vs[k]'(by omega):=(by simp[List.getD,List.getElem?_eq_getElem (show k<vs.length by omega)]);rw[this];exact hvs _ (List.getElem_mem _)
  rcases h.num l (belR l r k) with⟨e,_,_⟩|⟨e,hb⟩
  ·rw[e]
  ·rw[e];constructor
   ·intro h1;omega
   ·intro h1;rw[h1] at hb;exact absurd hb hm.1
 have ext:∀N:Nat→List Int,wordsN N l r=vs↔∀k,k<128→(N l).getD (belR l r k) 0=vs.getD k 0:=fun N=>by
  constructor
  ·intro e k hk;rw[←e,wordsN_get _ _ _ hk]
  ·intro e;unfold wordsN;refine List.ext_getElem? (fun i=>?_);rw[List.getElem?_map];by_cases hi:i<128
   ·rw[List.getElem?_range hi];show some ((N l).getD (belR l r i) 0)=_;rw[e i hi];simp[List.getD,List.getElem?_eq_getElem (show i<vs.length by omega)]
   ·rw[List.getElem?_eq_none (by simp;omega),List.getElem?_eq_none (by omega)];rfl
 rw[ext,ext];constructor
 ·intro e k hk;exact(key k hk).1 (e k hk)
 ·intro e k hk;exact(key k hk).2 (e k hk)
theorem rel_step{fs:List Int}{A B:RD}(hf:∀x∈fs,2≤x)(hLo:∀l r,(B.Lo l).getD r 0∉fs∧0≤(B.Lo l).getD r 0)(hW:∀l r,l<2→(B.Lo (l+1)).getD r 0≠0→∀v∈wrdsP img ((B.Lo (l+1)).getD r 0),v∉fs∧0≤v)(h:RelS fs A B)(l r:Nat)(hl:l<3):RelS fs (stepO img cs A (l,r)) (stepO img cs B (l,r)):=by
 obtain⟨⟨h1,h2,h3⟩,h4,h5⟩:=h;have hT:TookO fs (stepO img cs B (l,r)):=took_step h4 _ _ _ _ _;have hA:(stepO img cs A (l,r)).Lo=(stepO img cs B (l,r)).Lo∧(stepO img cs A (l,r)).st=none∧(stepO img cs A (l,r)).sh=false:=by
  unfold stepO;rw[placeO_Lo,placeO_Lo,placeO_st,placeO_sh,h2,h3];refine⟨h1,?_,by simp[supB]⟩;split<;>rfl
 refine⟨hA,hT,?_⟩;rcases h5 with⟨h6,h7⟩|h6
 ·left;refine⟨run_sh img cs [(l,r)] B h6,?_⟩;obtain⟨E,hE⟩:=run_P img cs [(l,r)] A;have hE2:(stepO img cs A (l,r)).P=A.P++E:=hE;rw[hE2,List.length_append];omega
 ·have hz:zB cs A.Ln l r=zB cs B.Ln l r:=by
   cases l with
   |zero=>rfl
   |succ l=>
    rw[zB_s,zB_s];have:=rel_words hf h6 l r (List.replicate 128 0) (by simp) (fun v hv=>by
     rw[(List.mem_replicate.1 hv).2];exact⟨fun e=>by have:=hf _ e;omega,by omega⟩)
    simp only[this]
  have he:eB img cs A.Lo A.Ln l r=eB img cs B.Lo B.Ln l r:=by
   rw[h1];cases l with
   |zero=>rfl
   |succ l=>
    rw[eB_s,eB_s];by_cases h0:(B.Lo (l+1)).getD r 0=0
    ·simp only[h0];simp
    ·have:=rel_words hf h6 l r (wrdsP img ((B.Lo (l+1)).getD r 0)) (wrdsP_len _ _) (hW l r (by omega) h0);simp only[this]
  unfold stepO;simp only;rw[hz,he];obtain⟨z,hzz⟩:∃z,z=zB cs B.Ln l r:=⟨_,rfl⟩;obtain⟨e,hee⟩:∃e,e=eB img cs B.Lo B.Ln l r:=⟨_,rfl⟩;rw[←hzz, ←hee];have hn:∀(x y:Int) (ys ys':List Int),(if z=true then(0:Int) else if e=true then(A.Lo l).getD r 0 else supN A.st)=x→(if z=true then(0:Int) else if e=true then(B.Lo l).getD r 0 else supN B.st)=y→NumR fs x y→(∀l',((A.placeO l r z e ys).Ln l').length=((B.placeO l r z e ys').Ln l').length)∧∀l' r',NumR fs (((A.placeO l r z e ys).Ln l').getD r' 0) (((B.placeO l r z e ys').Ln l').getD r' 0):=fun x y ys ys' hx hy hxy=>by
   refine⟨fun l'=>?_,fun l' r'=>?_⟩
   ·rw[placeO_len,placeO_len,h6.ll,h6.ll]
   ·rw[placeO_at,placeO_at,hx,hy];split
    ·exact hxy
    ·exact h6.num l' r'
  obtain⟨t1,t2,t3⟩:=h4 h6.sh;have hno:(z||e)=true→NumR fs (if z=true then(0:Int) else if e=true then(A.Lo l).getD r 0 else supN A.st) (if z=true then(0:Int) else if e=true then(B.Lo l).getD r 0 else supN B.st):=fun hze=>by
   cases z with
   |true=>exact .inl ⟨rfl,fun e=>by have:=hf _ e;simp at this,by simp⟩
   |false=>
    cases e with
    |true=>
     rw[if_neg (by decide),if_pos rfl,if_neg (by decide),if_pos rfl,h1];exact .inl ⟨rfl,(hLo l r).1,(hLo l r).2⟩
    |false=>cases hze
  cases hze:z||e with
  |true=>
   right;obtain⟨k1,k2⟩:=hn _ _ (mkB cs A.Ln l r) (mkB cs B.Ln l r) rfl rfl (hno hze);refine⟨?_,?_,k1,k2⟩
   ·rw[placeO_sh,h6.sh];rw[Bool.or_eq_true] at hze;rcases hze with hze|hze<;>rw[hze]<;>simp
   ·rw[placeO_P,placeO_P,hze,if_pos (by rfl),if_pos (by rfl)];exact h6.len
  |false=>
   have hz0:=hze;rw[Bool.or_eq_false_iff] at hze;by_cases hlt:B.P.length<fs.length
   ·right;have hd:fs.drop B.P.length=fs[B.P.length]::fs.drop (B.P.length+1):=List.drop_eq_getElem_cons hlt;have hb:supB B.st=true:=(by rw[t1,hd];rfl);have hbn:supN B.st=fs[B.P.length]:=(by rw[t1,hd];rfl);obtain⟨k1,k2⟩:=hn (-1) (fs[B.P.length]) (mkB cs A.Ln l r) (mkB cs B.Ln l r) (by rw[hze.1,hze.2,h2];rfl) (by rw[hze.1,hze.2,hbn];rfl) (.inr ⟨rfl,List.getElem_mem _⟩);refine⟨?_,?_,k1,k2⟩
    ·rw[placeO_sh,h6.sh,hb];simp
    ·have ha:supB A.st=true:=(by rw[h2];rfl);rw[placeO_P,placeO_P,hz0,ha,hb,if_neg (by decide),if_neg (by decide),List.length_append,List.length_append,h6.len];rfl
   ·left;have hd:fs.drop B.P.length=[]:=List.drop_eq_nil_of_le (by omega);have hb:supB B.st=false:=(by rw[t1,hd];rfl);have ha:supB A.st=true:=(by rw[h2];rfl);refine⟨?_,?_⟩
    ·rw[placeO_sh,hb,hze.1,hze.2];simp
    ·rw[placeO_P,hz0,ha,if_neg (by decide),List.length_append,h6.len];simp;omega
theorem rel_run{fs:List Int}(hf:∀x∈fs,2≤x):∀(Q:List (Nat×Nat)) (A B:RD),(∀p∈Q,p.1<3)→(∀l r,(B.Lo l).getD r 0∉fs∧0≤(B.Lo l).getD r 0)→(∀l r,l<2→(B.Lo (l+1)).getD r 0≠0→∀v∈wrdsP img ((B.Lo (l+1)).getD r 0),v∉fs∧0≤v)→RelS fs A B→RelS fs (runO img cs Q A) (runO img cs Q B)
 |[],_,_,_,_,_,h=>h
 |p::Q,A,B,hQ,hLo,hW,h=>by
  have e:(stepO img cs B p).Lo=B.Lo:=placeO_Lo ..;exact rel_run hf Q _ _ (fun q hq=>hQ q (List.mem_cons_of_mem _ hq)) (by rw[e];exact hLo) (by rw[e];exact hW) (rel_step img cs hf hLo hW h p.1 p.2 (hQ p List.mem_cons_self))
end
theorem someM_len{A B:List Int}(hl:A.length=B.length)(h:∀r,A.getD r 0=0↔B.getD r 0=0):(someM A).length=(someM B).length:=by
 rw[some_get A A.length (fun r hr=>by simp[List.getD,List.getElem?_eq_none hr]),some_get B A.length (fun r hr=>by simp[List.getD,List.getElem?_eq_none (show B.length≤r by omega)]),List.length_flatMap,List.length_flatMap];congr 1;refine List.map_congr_left (fun r _=>?_);by_cases h0:A.getD r 0=0
 ·rw[if_pos h0,if_pos ((h r).1 h0)]
 ·rw[if_neg h0,if_neg (fun e=>h0 ((h r).2 e))];rfl
theorem RelO.cnt{fs:List Int}{A B:RD}(hf:∀x∈fs,2≤x)(h:RelO fs A B):cntN A.Ln 3=cntN B.Ln 3:=by
 have k:∀l,(someM (A.Ln l)).length=(someM (B.Ln l)).length:=fun l=>someM_len (h.ll l) (fun r=>by
  rcases h.num l r with⟨e,_,_⟩|⟨e,hb⟩
  ·rw[e]
  ·have:=hf _ hb;constructor<;>intro _<;>omega)
 rw[cntN_succ,cntN_succ,cntN_succ,cntN_succ,cntN_succ,cntN_succ,k,k,k];rfl
end
end Go.Proofs.YtbhpealglhkodaaGreatDoor
