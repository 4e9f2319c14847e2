/- Mathematics: what a renewal that isn't short leaves is a tree of the content in the new im -/
import Derived.Test.YtbhpealglhkodaaGreatDoorXc42
namespace Go.Proofs.YtbhpealglhkodaaGreatDoor
set_option linter.all false
set_option maxRecDepth 100000
set_option maxHeartbeats 16000000
section
open Go.RowKit Go.Shelf
structure BegO(D:RD)(No:Nat→List Int):Prop where
 lo:∀l r,(D.Lo l).getD r 0=if l<3 then(No l).getD r 0 else 0
 ln:D.Ln=fun _=>[]
 p:D.P=[]
 sh:D.sh=false
def GoodO(n:Nat)(D:RD):Prop:=(∀l r,0≤(D.Ln l).getD r 0∧(D.Ln l).getD r 0<(n:Int))∧(∃L,D.st=some L∧∀x∈L,0≤x∧x<(n:Int))∧∀p∈D.P,PutOk n p
theorem words_good{n:Nat}(hn:n≤2048){N:Nat→List Int}(h:∀l r,0≤(N l).getD r 0∧(N l).getD r 0<(n:Int))(l r:Nat):goodW (wordsN N l r)=true:=by
 unfold goodW;rw[Bool.and_eq_true,decide_eq_true_eq,List.all_eq_true];refine⟨wordsN_len N l r,fun x hx=>?_⟩;unfold wordsN at hx;obtain⟨k,_,rfl⟩:=List.mem_map.1 hx;have:=h l (belR l r k);unfold okW;simp only[Bool.and_eq_true,decide_eq_true_eq];omega
theorem pad_len(cs:List Int)(r:Nat):(padB cs r).length=512:=by rw[padB_map];simp
theorem pad_bd{cs:List Int}(h:∀z∈cs,0≤z∧z<256)(r:Nat):∀z∈padB cs r,0≤z∧z<256:=by
 intro z hz;unfold padB at hz;rcases List.mem_append.1 hz with hz|hz
 ·exact h z (List.mem_of_mem_drop (List.mem_of_mem_take hz))
 ·rw[(List.mem_replicate.1 hz).2];omega
theorem mkB_ok{n:Nat}(hn:n≤2048){cs:List Int}(hb:∀z∈cs,0≤z∧z<256){N:Nat→List Int}(h:∀l r,0≤(N l).getD r 0∧(N l).getD r 0<(n:Int))(l r:Nat):(mkB cs N l r).length=512∧∀z∈mkB cs N l r,0≤z∧z<256:=by
 cases l with
 |zero=>exact⟨pad_len cs r,pad_bd hb r⟩
 |succ l=>exact⟨encW_len (words_good hn h l r),encW_bd _⟩
theorem good_step{n:Nat}(hn:0<n∧n≤2048){img cs:List Int}(hb:∀z∈cs,0≤z∧z<256){D:RD}(hLo:∀l r,0≤(D.Lo l).getD r 0∧(D.Lo l).getD r 0<(n:Int))(h:GoodO n D)(p:Nat×Nat):GoodO n (stepO img cs D p):=by
 obtain⟨h1,⟨L,hL,h2⟩,h3⟩:=h;have hs:0≤supN D.st∧supN D.st<(n:Int):=by
  rw[hL];cases L with
  |nil=>show(0:Int)≤0∧(0:Int)<n;omega
  |cons x xs=>exact h2 x List.mem_cons_self
 refine⟨fun l r=>?_,?_,?_⟩
 ·unfold stepO;rw[placeO_at];split
  ·split
   ·omega
   ·split
    ·exact hLo _ _
    ·exact hs
  ·exact h1 l r
 ·unfold stepO;rw[placeO_st];split
  ·exact⟨L,hL,h2⟩
  ·rw[hL];cases L with
   |nil=>exact⟨[],rfl,h2⟩
   |cons x xs=>exact⟨xs,rfl,fun y hy=>h2 y (List.mem_cons_of_mem _ hy)⟩
 ·unfold stepO;rw[placeO_P];split
  ·exact h3
  ·intro q hq;rcases List.mem_append.1 hq with hq|hq
   ·exact h3 q hq
   ·rw[List.mem_singleton] at hq;subst hq;have:=mkB_ok hn.2 hb h1 p.1 p.2;exact⟨hs.1,hs.2,this.1,this.2⟩
theorem good_run{n:Nat}(hn:0<n∧n≤2048){img cs:List Int}(hb:∀z∈cs,0≤z∧z<256):∀(Q:List (Nat×Nat)) (D:RD),(∀l r,0≤(D.Lo l).getD r 0∧(D.Lo l).getD r 0<(n:Int))→GoodO n D→GoodO n (runO img cs Q D)
 |[],_,_,h=>h
 |p::Q,D,hLo,h=>by
  have e:(stepO img cs D p).Lo=D.Lo:=placeO_Lo ..;exact good_run hn hb Q _ (by rw[e];exact hLo) (good_step hn hb hLo h p)
theorem wrds_same{A B:List Int}{x:Int}(h:blkP A x=blkP B x):wrdsP A x=wrdsP B x:=by
 unfold wrdsP wrdP;rw[h]
theorem wrds_enc{A:List Int}{x:Int}{ws:List Int}(hg:goodW ws=true)(hl:ws.length=128)(h:blkP A x=encW ws):wrdsP A x=ws:=by
 unfold wrdsP wrdP;rw[h];refine List.ext_getElem? (fun i=>?_);rw[List.getElem?_map];by_cases hi:i<128
 ·rw[List.getElem?_range hi];show some (wordAt (encW ws) i)=_;rw[wordAt_enc hg hi];simp[List.getD,List.getElem?_eq_getElem (show i<ws.length by omega)]
 ·rw[List.getElem?_eq_none (by simp;omega),List.getElem?_eq_none (by omega)];rfl
section
variable {zs co cs fs:List Int} {No:Nat→List Int} {D0 D:RD}
theorem BegO.lo_in(hT:TreeAt zs co No)(h:BegO D0 No)(l r:Nat):0≤(D0.Lo l).getD r 0∧(D0.Lo l).getD r 0<((zs.length/512:Nat):Int):=by
 have hb:=hT.big;rw[h.lo];split
 ·rcases hT.rng l r with e|e<;>omega
 ·omega
theorem BegO.out(h:BegO D0 No){img:List Int}{l r:Nat}(hr:¬(l<3∧r<lvN (cntT cs) l)):((runO img cs (spL (cntT cs)) D0).Ln l).getD r 0=0:=by
 rw[run_keep _ _ _ _ (fun e=>hr (sp_mem.1 e)),h.ln];rfl
theorem lv0(cnt:Nat):lvN cnt 0=cnt:=rfl
theorem lv1(cnt:Nat):lvN cnt 1=(cnt+115)/128:=rfl
theorem lv2(cnt:Nat):lvN cnt 2=if 140<cnt then 1 else 0:=rfl
theorem tree_next(hT:TreeAt zs co No)(hcl:cs.length≤262144)(hb:∀z∈cs,0≤z∧z<256)(hf:∀x∈fs,2≤x∧x<((zs.length/512:Nat):Int))(hnd:fs.Nodup)(hk:∀l r,l<3→(No l).getD r 0∉fs)
 (h0:BegO D0 No) (hst:D0.st=some fs) (hD:D=runO zs cs (spL (cntT cs)) D0) (hsh:D.sh=false):
 TreeAt (putsI zs D.P) cs D.Ln∧(∀l r,l<3→r<lvN (cntT cs) l→zB cs D.Ln l r=true→(D.Ln l).getD r 0=0)∧D.P.map (·.1)=fs.take D.P.length∧D.P.length≤fs.length∧(∀p∈D.P,PutOk (zs.length/512) p):=by
 have hbig:=hT.big;obtain⟨n,hn⟩:∃n,n=zs.length/512:=⟨_,rfl⟩;rw[←hn] at hf hbig⊢;have hLoI:∀l r,0≤(D0.Lo l).getD r 0∧(D0.Lo l).getD r 0<(n:Int):=fun l r=>by rw[hn];exact h0.lo_in hT l r
 have hg0:∀l r,0≤(D0.Ln l).getD r 0∧(D0.Ln l).getD r 0<(n:Int):=fun l r=>by
  have e:(D0.Ln l).getD r 0=0:=by rw[h0.ln];rfl
  rw[e];omega
 have hG0:GoodO n D0:=⟨hg0,⟨fs,hst,fun x hx=>by have:=hf x hx;omega⟩,fun p hp=>by rw[h0.p] at hp;cases hp⟩;have hG:=good_run (img:=zs) (by omega) hb (spL (cntT cs)) D0 hLoI hG0;rw[←hD] at hG;obtain⟨g1,_,g3⟩:=hG;have hTk:TookO fs D0:=fun _=>⟨by rw[hst,h0.p];rfl,by rw[h0.p];rfl,by rw[h0.p];simp⟩;have hTk2:=run_took zs cs (spL (cntT cs)) D0 hTk;rw[←hD] at hTk2;obtain⟨_,t2,t3⟩:=hTk2 hsh;have hPl:∀l r,l<3→r<lvN (cntT cs) l→Placed zs cs D l r:=fun l r hl hr=>by
  rw[hD] at hsh⊢;exact run_placed zs cs (sp_ord _) hsh (l,r) (sp_mem.2 ⟨hl,hr⟩)
 have hOut:∀l r,¬(l<3∧r<lvN (cntT cs) l)→(D.Ln l).getD r 0=0:=fun l r h=>by rw[hD];exact h0.out h
 have hLo:D.Lo=D0.Lo:=by rw[hD];exact run_Lo ..
 have hPf:∀p∈D.P,p.1∈fs:=fun p hp=>by
  have:p.1∈D.P.map (·.1):=List.mem_map.2 ⟨p,hp,rfl⟩;rw[t2] at this;exact List.mem_of_mem_take this
 have hPn:(D.P.map (·.1)).Nodup:=by rw[t2];exact List.Nodup.sublist (List.take_sublist _ _) hnd
 have hzl:zs.length=n*512:=hbig.2.2;have hlen:(putsI zs D.P).length=n*512:=puts_len D.P zs g3 hzl;have hdiv:(putsI zs D.P).length/512=n:=by rw[hlen,Nat.mul_div_cancel _ (by omega)]
 have hkeep:∀l r,l<3→(No l).getD r 0≠0→blkP (putsI zs D.P) ((No l).getD r 0)=blkP zs ((No l).getD r 0):=fun l r hl h=>by
  refine blk_putsI (n:=n) ?_ D.P zs g3 hzl (fun p hp e=>hk l r hl (by rw[←e];exact hPf p hp));rcases hT.rng l r with e|e
  ·exact absurd e h
  ·omega
 have hput:∀x ys,(x,ys)∈D.P→blkP (putsI zs D.P) x=ys:=fun x ys hp=>blk_putsI_at D.P zs g3 hPn hzl (x,ys) hp;have hnz:∀l r,l<3→r<lvN (cntT cs) l→zB cs D.Ln l r=true→(D.Ln l).getD r 0=0:=fun l r hl hr hz=>by
  have:=hPl l r hl hr;unfold Placed at this;rw[if_pos hz] at this;exact this
 have three:∀l r,l<3→r<lvN (cntT cs) l→(zB cs D.Ln l r=true∧(D.Ln l).getD r 0=0)∨(zB cs D.Ln l r=false∧eB zs cs D0.Lo D.Ln l r=true∧(D.Ln l).getD r 0=(No l).getD r 0)∨(zB cs D.Ln l r=false∧((D.Ln l).getD r 0,mkB cs D.Ln l r)∈D.P∧2≤(D.Ln l).getD r 0):=fun l r hl hr=>by
  have:=hPl l r hl hr;unfold Placed at this;rw[hLo] at this;cases hz:zB cs D.Ln l r with
  |true=>rw[if_pos hz] at this;exact .inl ⟨rfl,this⟩
  |false=>
   rw[if_neg (by rw[hz];decide)] at this;cases he:eB zs cs D0.Lo D.Ln l r with
   |true=>
    rw[if_pos he,h0.lo,if_pos hl] at this;exact .inr (.inl ⟨rfl,rfl,this⟩)
   |false=>
    rw[if_neg (by rw[he];decide)] at this;exact .inr (.inr ⟨rfl,this,(hf _ (hPf _ this)).1⟩)
 have elo:∀l r,l<3→eB zs cs D0.Lo D.Ln l r=true→(No l).getD r 0≠0:=fun l r hl h=>by
  cases l with
  |zero=>
   first|rw[eB_0] at h|rw[eB_s] at h
   rw[decide_eq_true_eq,h0.lo,if_pos hl] at h;exact h.1
  |succ l=>
   first|rw[eB_0] at h|rw[eB_s] at h
   rw[decide_eq_true_eq,h0.lo,if_pos hl] at h;exact h.1
 refine⟨⟨?_,hcl,?_,?_,?_,?_,?_,?_,?_,?_⟩,hnz,t2,t3,g3⟩
 ·have:=hT.sz;unfold szOk at this⊢;rw[hlen, ←hzl];exact this
 ·intro l r;rw[hdiv];by_cases hin:l<3∧r<lvN (cntT cs) l
  ·rcases three l r hin.1 hin.2 with⟨_,e⟩|⟨_,he,e⟩|⟨_,hp,_⟩
   ·exact .inl e
   ·rw[e,hn];exact hT.rng l r
   ·exact .inr (hf _ (hPf _ hp))
  ·exact .inl (hOut l r hin)
 ·exact fun r hr=>hOut 0 r (fun h=>by have:=h.2;rw[lv0] at this;omega)
 ·exact fun r hr=>hOut 1 r (fun h=>by have:=h.2;rw[lv1] at this;omega)
 ·refine fun r hr=>hOut 2 r (fun h=>?_);have:=h.2;rw[lv2] at this;split at this<;>omega
 ·intro r hr e;rcases three 0 r (by omega) hr with⟨hz,_⟩|⟨_,he,e2⟩|⟨_,_,h2⟩
  ·first|rw[zB_0] at hz|rw[zB_s] at hz
   exact of_decide_eq_true hz
  ·exact absurd (e2.symm.trans e) (elo 0 r (by omega) he)
  ·omega
 ·intro r h;have hin:0<3∧r<lvN (cntT cs) 0:=Decidable.byContradiction (fun hc=>h (hOut 0 r hc));rcases three 0 r hin.1 hin.2 with⟨_,e⟩|⟨_,he,e⟩|⟨_,hp,_⟩
  ·exact absurd e h
  ·have hn0:=elo 0 r (by omega) he;rw[e,hkeep 0 r (by omega) hn0];first|rw[eB_0] at he|rw[eB_s] at he
   rw[decide_eq_true_eq,h0.lo,if_pos (by omega)] at he;exact he.2.symm
  ·exact hput _ _ hp
 ·intro l r hl e;by_cases hin:l+1<3∧r<lvN (cntT cs) (l+1)
  ·rcases three (l+1) r hin.1 hin.2 with⟨hz,_⟩|⟨_,he,e2⟩|⟨_,_,h2⟩
   ·first|rw[zB_0] at hz|rw[zB_s] at hz
    exact of_decide_eq_true hz
   ·exact absurd (e2.symm.trans e) (elo (l+1) r (by omega) he)
   ·omega
  ·refine wordsN_zero (fun k hk=>hOut l _ (fun h2=>hin ⟨by omega,?_⟩));have hc:cntT cs≤512:=(by unfold cntT;omega);match l,hl,h2 with
   |0,_,h2=>
    have h3:=h2.2;rw[lv0] at h3;show r<lvN (cntT cs) 1;rw[lv1];simp[belR] at h3;omega
   |1,_,h2=>
    have h3:=h2.2;rw[lv1] at h3;show r<lvN (cntT cs) 2;rw[lv2];simp[belR] at h3;split<;>omega
 ·intro l r hl h;have hin:l+1<3∧r<lvN (cntT cs) (l+1):=Decidable.byContradiction (fun hc=>h (hOut (l+1) r hc));rcases three (l+1) r hin.1 hin.2 with⟨_,e⟩|⟨_,he,e⟩|⟨_,hp,_⟩
  ·exact absurd e h
  ·have hn0:=elo (l+1) r (by omega) he;rw[e,wrds_same (hkeep (l+1) r (by omega) hn0)];first|rw[eB_0] at he|rw[eB_s] at he
   rw[decide_eq_true_eq,h0.lo,if_pos (by omega)] at he;exact he.2.symm
  ·exact wrds_enc (words_good (by omega) g1 l r) (wordsN_len _ _ _) (hput _ _ hp)
end
section
variable {zs cs:List Int} {N:Nat→List Int} {D0:RD}
def AgaO(D0:RD)(N:Nat→List Int)(A:List (Nat×Nat))(E:RD):Prop:=E.sh=false∧E.P=[]∧E.Lo=D0.Lo∧∀l r,l<3→(E.Ln l).getD r 0=if(l,r)∈A then(N l).getD r 0 else 0
theorem again_go(hT:TreeAt zs cs N)(hz0:∀l r,l<3→r<lvN (cntT cs) l→zB cs N l r=true→(N l).getD r 0=0)(h0:BegO D0 N):∀(B A:List (Nat×Nat)) (E:RD),A++B=spL (cntT cs)→AgaO D0 N A E→AgaO D0 N (A++B) (runO zs cs B E)
 |[],A,E,_,h=>by rw[List.append_nil];exact h
 |p::B,A,E,hAB,h=>by
  have hAB2:(A++[p])++B=spL (cntT cs):=by rw[List.append_assoc];exact hAB
  rw[run_cons,show A++p::B=(A++[p])++B by rw[List.append_assoc];rfl];refine again_go hT hz0 h0 B (A++[p]) _ hAB2 ?_;obtain⟨l,r⟩:=p;have hp:=sp_mem.1 (show(l,r)∈spL (cntT cs) by rw[←hAB];simp);obtain⟨hl,hr⟩:=hp;simp only at hl hr;have hord:=sp_ord (cntT cs);rw[←hAB] at hord;have hB:=(List.pairwise_cons.1 (List.pairwise_append.1 hord).2.1).1;obtain⟨h1,h2,h3,h4⟩:=h;obtain⟨z1,z2,z3⟩:=zme_same zs cs (Lo:=D0.Lo) (Ln:=E.Ln) (Ln':=N) (l:=l) (r:=r) (fun k hk=>by
   unfold wordsN;refine List.map_congr_left (fun j _=>?_);rw[h4 k _ (by omega)];split
   ·rfl
   ·rename_i hnA
    have hout:¬belR k r j<lvN (cntT cs) k:=fun hlt=>by
     have hm:(k,belR k r j)∈spL (cntT cs):=sp_mem.2 ⟨by show k<3;omega,hlt⟩;rw[←hAB] at hm;rcases List.mem_append.1 hm with hm|hm
     ·exact hnA hm
     ·rcases List.mem_cons.1 hm with hm|hm
      ·have:=congrArg Prod.fst hm;simp at this;omega
      ·have:=(hB _ hm).2;simp at this;omega
    match k,hk,hout with
    |0,_,hout=>rw[lv0] at hout;rw[hT.non0 _ (by omega)]
    |1,_,hout=>rw[lv1] at hout;rw[hT.non1 _ (by omega)]
    |k+2,hk,_=>omega)
  have hv:(if zB cs E.Ln l r=true then 0 else if eB zs cs E.Lo E.Ln l r=true then(E.Lo l).getD r 0 else supN E.st)=(N l).getD r 0∧(zB cs E.Ln l r||eB zs cs E.Lo E.Ln l r)=true:=by
   rw[h3,z1,z2];cases hz:zB cs N l r with
   |true=>exact⟨(hz0 l r hl hr hz).symm,rfl⟩
   |false=>
    have he:eB zs cs D0.Lo N l r=true:=by
     cases l with
     |zero=>
      first|rw[zB_0] at hz|rw[zB_s] at hz
      first|rw[eB_0]|rw[eB_s]
      have hn:(N 0).getD r 0≠0:=fun e=>(of_decide_eq_false hz) (hT.dat0 r hr e);rw[decide_eq_true_eq,h0.lo,if_pos hl];exact⟨hn,(hT.dat r hn).symm⟩
     |succ l=>
      first|rw[zB_0] at hz|rw[zB_s] at hz
      first|rw[eB_0]|rw[eB_s]
      have hn:(N (l+1)).getD r 0≠0:=fun e=>(of_decide_eq_false hz) (hT.ptr0 l r (by omega) e);rw[decide_eq_true_eq,h0.lo,if_pos hl];exact⟨hn,(hT.ptr l r (by omega) hn).symm⟩
    rw[he,if_neg (by decide),if_pos rfl,h0.lo,if_pos hl];exact⟨rfl,rfl⟩
  refine⟨?_,?_,?_,?_⟩
  ·unfold stepO;rw[placeO_sh,h1];have hv2:=hv.2;simp only;rw[Bool.or_eq_true] at hv2;rcases hv2 with e|e<;>rw[e]<;>simp
  ·unfold stepO;rw[placeO_P,h2];simp only;rw[if_pos (by rw[hv.2];rfl)]
  ·exact(placeO_Lo ..).trans h3
  ·intro l' r' hl';unfold stepO;rw[placeO_at];simp only;by_cases he:l'=l∧r'=r
   ·rw[if_pos he,hv.1,he.1,he.2,if_pos (by simp)]
   ·rw[if_neg he,h4 l' r' hl'];have:((l',r')∈A++[(l,r)])↔(l',r')∈A:=by
     rw[List.mem_append,List.mem_singleton,Prod.mk.injEq];exact⟨fun h=>h.elim id (fun e=>absurd e he),.inl⟩
    simp only[this]
theorem tree_again(hT:TreeAt zs cs N)(hz0:∀l r,l<3→r<lvN (cntT cs) l→zB cs N l r=true→(N l).getD r 0=0)(h0:BegO D0 N):(runO zs cs (spL (cntT cs)) D0).sh=false∧(runO zs cs (spL (cntT cs)) D0).P=[]∧∀l r,l<3→((runO zs cs (spL (cntT cs)) D0).Ln l).getD r 0=(N l).getD r 0:=by
 obtain⟨h1,h2,_,h4⟩:=again_go hT hz0 h0 (spL (cntT cs)) [] D0 rfl ⟨h0.sh,h0.p,rfl,fun l r _=>by rw[h0.ln,if_neg (by simp)];rfl⟩;refine⟨h1,h2,fun l r hl=>?_⟩;rw[h4 l r hl,List.nil_append];split
 ·rfl
 ·rename_i hn
  have hc:=hT.cnt;have hn:¬(l<3∧r<lvN (cntT cs) l):=fun e=>hn (sp_mem.2 e);match l,hl,hn with
  |0,_,hn=>rw[lv0] at hn;rw[hT.non0 _ (by omega)]
  |1,_,hn=>rw[lv1] at hn;rw[hT.non1 _ (by omega)]
  |2,_,hn=>rw[lv2] at hn;rw[hT.non2 _ (by split at hn<;>omega)]
end
theorem tree_need{zs co cs fs:List Int}{No:Nat→List Int}{A0 B0:RD}(hT:TreeAt zs co No)(hf:∀x∈fs,2≤x)(hk:∀l r,l<3→(No l).getD r 0∉fs)(hA:BegO A0 No)(hB:BegO B0 No)(hL:A0.Lo=B0.Lo)(hAs:A0.st=none)(hBs:B0.st=some fs):
 (runO zs cs (spL (cntT cs)) A0).sh=false∧(((runO zs cs (spL (cntT cs)) B0).sh=true∧fs.length<(runO zs cs (spL (cntT cs)) A0).P.length)∨((runO zs cs (spL (cntT cs)) B0).sh=false∧(runO zs cs (spL (cntT cs)) A0).P.length=(runO zs cs (spL (cntT cs)) B0).P.length∧cntN (runO zs cs (spL (cntT cs)) A0).Ln 3=cntN (runO zs cs (spL (cntT cs)) B0).Ln 3)):=by
 have h0:(0:Int)∉fs:=fun e=>by have:=hf _ e;omega
 have hk3:∀l r,(if l<3 then(No l).getD r 0 else 0)∉fs:=fun l r=>by
  split
  ·rename_i hl;exact hk l r hl
  ·exact h0
 have hp:∀l r,0≤(No l).getD r 0:=fun l r=>by rcases hT.rng l r with e|e<;>omega
 have hR:RelS fs A0 B0:=⟨⟨hL,hAs,hA.sh⟩,fun _=>⟨by rw[hBs,hB.p];rfl,by rw[hB.p];rfl,by rw[hB.p];simp⟩,.inr ⟨hB.sh,by rw[hA.p,hB.p],fun l=>by rw[hA.ln,hB.ln],fun l r=>by rw[hA.ln,hB.ln];exact .inl ⟨rfl,h0,Int.le_refl 0⟩⟩⟩;have hR2:=rel_run zs cs hf (spL (cntT cs)) A0 B0 (fun p hp=>(sp_mem.1 hp).1) (fun l r=>by
  rw[hB.lo];refine⟨hk3 l r,?_⟩;split
  ·exact hp l r
  ·omega) (fun l r hl hne v hv=>by
  rw[hB.lo,if_pos (by omega)] at hne hv;rw[hT.ptr l r hl hne] at hv;unfold wordsN at hv;obtain⟨k,_,rfl⟩:=List.mem_map.1 hv;exact⟨hk l _ (by omega),hp l _⟩) hR
 obtain⟨⟨_,_,a3⟩,_,h5⟩:=hR2;refine⟨a3,?_⟩;rcases h5 with h5|h5
 ·exact .inl h5
 ·exact .inr ⟨h5.sh,h5.len,h5.cnt hf⟩
end
section
open Go.RowKit Go.Shelf
theorem renewO_any(W0 w:World)(ia ca:Option Addr)(il ic n cc cnt ff:Nat)(lb:Array Value)(zs cs:List Int)(s:Int)(ds:List Int)(p q:Int)(g:Nat→Int)(Lo:Nat→List Int)(n0 n1 n2:Nat)(st:Option (List Int))(D3:RD)
 (hb:Below W0.heap.size W0 w) (hi:Rd .u8 W0 (.slice ia il ic) zs) (hz:zs.length≤1048576) (hbd:∀z∈zs,0≤z∧z<256) (hok:okR zs s ds p q=true) (hd:ds.length=12) (hgg:g=rootN s ds p q) (hs0:0≤s∧s≤262144) (hZ:(ZR zs s ds p q).2=false) (hLo:Lo=numL (upX (ZR zs s ds p q).1)) (hn0:n0=(Lo 0).length) (hn1:n1=(Lo 1).length) (hn2:n2=(Lo 2).length) (hold:∀l r,(Lo l).getD r 0≠0→∃q:Nat,(Lo l).getD r 0=(q:Int)∧q*512+512≤zs.length)
 (hR:Rd .u8 W0 (.slice ca n cc) cs) (hn:n=cs.length) (hcs:cs.length≤262144) (hcnt:cnt=(n+511)/512) (hg:ErrT W0) (hsup:Sup W0 w (.func (.func ff) #[] lb) st)
 (hD:D3=rEO zs cs cnt (rDO (.slice ia il ic) (.slice ca n cc) g Lo st)):
 Calls Tryz.prog 34 #[.slice ia il ic,.agg (rootY g),.slice ca n cc,.func (.func ff) #[] lb] w fun e w'=>((D3.sh=false∧∃b,e=.returned (.tuple #[.pointer (some ⟨b,0,none⟩),.nilIface])∧RSt W0 w' b D3)∨(D3.sh=true∧∃ev,e=.returned (.tuple #[.pointer none,ev])∧Flt w' W0.heap.size 0 ev 9))∧Below W0.heap.size W0 w':=by
 obtain⟨iv,hiv⟩:∃iv,iv=Value.slice ia il ic:=⟨_,rfl⟩;have hc:cnt≤512:=by omega
 obtain⟨W1,hW1⟩:∃W1,W1=w.alloc (.cells (rootY g) 27):=⟨_,rfl⟩;have B1:=hide (show Below w.heap.size w W1 from by rw[hW1];exact(Below.refl _ _).alloc (Nat.le_refl _) _);have K1:=hide (show Blk W1 w.heap.size (rootY g) 27 from by rw[hW1];exact Blk.new w _ _);have HB:=hide hb;have HI:=hide hi;have HZ:=hide hz;have HBd:=hide hbd;have HO:=hide (And.intro hok (And.intro hd (And.intro hgg (And.intro hs0 (And.intro hZ (And.intro hLo (And.intro hn0 (And.intro hn1 hn2))))))));have HOld:=hide hold;have HR:=hide hR;have HN:=hide hn;have HCs:=hide hcs;have HCnt:=hide hcnt;have HG:=hide hg;have HSup:=hide hsup;have HD:=hide hD;have L1:=hide (show Below W0.heap.size W0 W1 from hb.trans (B1.out.mono hb.size));have HW1:=hide hW1;have hnI:¬(262144:Int)<(n:Int):=by omega
 have hw0:=hb.size;clear hb hi hz hbd hok hd hgg hs0 hZ hLo hn0 hn1 hn2 hold hR hn hcs hcnt hg hsup hD hW1 hiv;go_enter Tryz.func34,Tryz.ntmps34;go_upto_region 1 with fail;rw[←HW1.out];go_upto_region 2 with(first
  |(refine wpList_load_row rfl 27 _ rfl w.heap.size rfl 27 (rootY g) (0,0) _ K1.out Tryz.underlying27 rfl infoRt15 ?_)
  |(go_at_call 52;refine(openO_any ia il ic zs s ds p q g _ (HI.out.below L1.out) HZ.out HO.out.2.1 HO.out.2.2.1 HO.out.1).mono ?_;rintro e w2 ⟨rfl,b2⟩;have B2:=hide b2;clear b2))
 obtain⟨W3,hW3⟩:∃W3,W3=w2.alloc (.cells (treeY (.slice ia il ic) g) 75):=⟨_,rfl⟩;have B3:=hide (show Below w2.heap.size w2 W3 from by rw[hW3];exact(Below.refl _ _).alloc (Nat.le_refl _) _);have K3:=hide (show Blk W3 w2.heap.size (treeY (.slice ia il ic) g) 75 from by rw[hW3];exact Blk.new w2 _ _);have hs2:w.heap.size≤w2.heap.size:=Nat.le_trans B1.out.size B2.out.size;have B3w:=hide (show Below w.heap.size w W3 from(B1.out.trans (B2.out.mono B1.out.size)).trans (B3.out.mono hs2));have L3:=hide (show Below W0.heap.size W0 W3 from HB.out.trans (B3w.out.mono hw0));rw[←hW3];clear hW3;go_upto_region 7 with(first
  |(refine wpList_load_row rfl 75 _ rfl w2.heap.size rfl 75 (treeY (.slice ia il ic) g) (0,0) _ K3.out Tryz.underlying75 rfl infoTrR ?_)
  |(go_at_call 62;refine(numO_any (.slice ia il ic) zs s ds p q g Lo n0 n1 n2 _ (HI.out.below L3.out) HZ.out HBd.out HO.out.2.1 HO.out.2.2.1 HO.out.2.2.2.1.1 HO.out.2.2.2.1.2 HO.out.2.2.2.2.1 HO.out.2.2.2.2.2.1 HO.out.2.2.2.2.2.2.1 HO.out.2.2.2.2.2.2.2.1 HO.out.2.2.2.2.2.2.2.2).mono ?_;rintro e w4 ⟨a0,q0,a1,q1,a2,q2,rfl,r4,ap4,b4⟩;have R4:=hide (And.intro r4 (And.intro ap4 b4));clear r4 ap4 b4))
 obtain⟨W5,hW5⟩:∃W5,W5=w4.alloc (.cells #[.slice a0 n0 q0,.slice a1 n1 q1,.slice a2 n2 q2] 77):=⟨_,rfl⟩;have B5:=hide (show Below w4.heap.size w4 W5 from by rw[hW5];exact(Below.refl _ _).alloc (Nat.le_refl _) _);have K5:=hide (show Blk W5 w4.heap.size #[.slice a0 n0 q0,.slice a1 n1 q1,.slice a2 n2 q2] 77 from by rw[hW5];exact Blk.new w4 _ _);have B35:=hide (show Below W3.heap.size W3 W5 from R4.out.2.2.trans (B5.out.mono R4.out.2.2.size));have T5:=hide (K3.out.below B35.out K3.out.lt);have B5w:=hide (show Below w.heap.size w W5 from B3w.out.trans (B35.out.mono B3w.out.size));rw[←hW5];clear hW5;have hBu:=built_renY g ia il ic ca n cc a0 n0 q0 a1 n1 q1 a2 n2 q2 ff lb;obtain⟨TZ,hTZ⟩:∃TZ,TZ=treeY (Value.slice ia il ic) g:=⟨_,rfl⟩;obtain⟨NZ,hNZ⟩:∃NZ:Array Value,NZ=#[.slice a0 n0 q0,.slice a1 n1 q1,.slice a2 n2 q2]:=⟨_,rfl⟩;obtain⟨RZ,hRZ⟩:∃RZ,RZ=renY (.slice ia il ic) g (.slice ca n cc) (.slice a0 n0 q0) (.slice a1 n1 q1) (.slice a2 n2 q2) (.func (.func ff) #[] lb):=⟨_,rfl⟩;rw[←hTZ, ←hNZ, ←hRZ] at hBu;rw[←hTZ] at T5⊢;rw[←hNZ] at K5⊢;have HInT:=hide (show(Tryz.prog.info? 75).map (·.size)=some TZ.size from by rw[hTZ];exact infoTrR);have HInN:=hide (show(Tryz.prog.info? 77).map (·.size)=some NZ.size from by rw[hNZ];exact infoNm3);have HBu:=hide hBu;have HRZ:=hide hRZ;clear hBu hTZ hNZ hRZ;go_upto_region 10 with(first
  |(refine wpList_load_row rfl 75 _ rfl w2.heap.size rfl 75 TZ (0,0) _ T5.out Tryz.underlying75 rfl HInT.out ?_)
  |(refine wpList_load_row rfl 77 _ rfl w4.heap.size rfl 77 NZ (0,0) _ K5.out Tryz.underlying77 rfl HInN.out ?_)
  |(refine wpList_buildTo rfl 79 _ rfl (some 41) rfl RZ (by simp only[List.map_toArray,List.map_cons,List.map_nil];exact HBu.out) ?_))
 obtain⟨W6,hW6⟩:∃W6,W6=W5.alloc (.cells RZ 79):=⟨_,rfl⟩;have B6:=hide (show Below W5.heap.size W5 W6 from by rw[hW6];exact(Below.refl _ _).alloc (Nat.le_refl _) _);have K6:=hide (show Blk W6 W5.heap.size (renY (.slice ia il ic) g (.slice ca n cc) (.slice a0 n0 q0) (.slice a1 n1 q1) (.slice a2 n2 q2) (.func (.func ff) #[] lb)) 79 from by rw[hW6, ←HRZ.out];exact Blk.new W5 _ _);have B6w:=hide (show Below w.heap.size w W6 from B5w.out.trans (B6.out.mono B5w.out.size));have S6:=hide (show RSt W0 W6 W5.heap.size (rDO (.slice ia il ic) (.slice ca n cc) g Lo st) from by
  have bq:Below w4.heap.size w4 W6:=B5.out.trans (B6.out.mono B5.out.size);have hm:W0.heap.size≤W3.heap.size:=Nat.le_trans hw0 B3w.out.size;refine rSt_newO W0 W6 W5.heap.size _ _ g Lo a0 n0 q0 a1 n1 q1 a2 n2 q2 _ st (HB.out.trans (B6w.out.mono hw0)) (Nat.le_trans hw0 B5w.out.size) HO.out.2.2.2.2.2.2.1 HO.out.2.2.2.2.2.2.2.1 HO.out.2.2.2.2.2.2.2.2 K6.out ⟨own_below (own_mono R4.out.1.1 hm) bq,own_below (own_mono R4.out.1.2.1 hm) bq,own_below (own_mono R4.out.1.2.2 hm) bq⟩ R4.out.2.1 (HSup.out.below B6w.out))
 rw[←hW6];clear hW6;obtain⟨b,hbW⟩:∃b,b=W5.heap.size:=⟨_,rfl⟩;rw[←hbW] at S6⊢;clear hbW;have hL0:∀l,l<3→((rDO (.slice ia il ic) (.slice ca n cc) g Lo st).Ln l).length≤513:=fun l _=>Nat.zero_le _;have HL0:=hide hL0;clear hL0;have HRi:=hide (show RefIn W0 (rDO (.slice ia il ic) (.slice ca n cc) g Lo st) zs from⟨.slice ia il ic,rfl,rfl,HI.out,HZ.out,HBd.out⟩);have HOi:=hide (show ∀l r,OldIn (rDO (.slice ia il ic) (.slice ca n cc) g Lo st) zs l r from fun l r=>HOld.out l r);go_upto_region 11 with(first
  |(go_at_call 63;refine(level0O_any zs W0 _ b n cnt ca cc cs _ S6.out rfl HN.out HR.out HCs.out HCnt.out HL0.out (Nat.zero_le _) HRi.out HOi.out).mono ?_;rintro e w7 ⟨rfl,r7,k7⟩;have R7:=hide (And.intro r7 k7);clear r7 k7))
 have hlv:=level_at hc;have HP7:=hide (show RKp (rDO (.slice ia il ic) (.slice ca n cc) g Lo st) ((levelV cnt 0 14).foldl (stepDO zs cs) (rDO (.slice ia il ic) (.slice ca n cc) g Lo st)) 512 from by have h:=R7.out.2;rw[hlv.1,List.length_range, ←hlv.1] at h;exact⟨h.tr,h.cv,h.Lo,by have:=h.P;omega,h.Ln⟩);obtain⟨D1,hD1⟩:∃D1,D1=(levelV cnt 0 14).foldl (stepDO zs cs) (rDO (.slice ia il ic) (.slice ca n cc) g Lo st):=⟨_,rfl⟩;rw[←hD1] at R7 HP7;have HD1:=hide hD1;have HC:=hide hc;clear hD1 hlv hc;go_upto_region 12 with(first
  |(go_at_call 63;refine(levelPO_any 0 (by omega) zs W0 _ b n cnt ca cc D1 R7.out.1 (by rw[HP7.out.cv];rfl) (by have:=HCs.out;have:=HN.out;omega) HCnt.out HG.out (fun l _=>Nat.le_trans (HP7.out.Ln l) (by simp[rDO])) (Nat.le_trans HP7.out.P (by simp[rDO])) (HRi.out.same HP7.out.tr) (fun l r=>(HOi.out l r).same HP7.out.Lo)).mono ?_;rintro e w8 ⟨rfl,r8,k8⟩;have R8:=hide (And.intro r8 k8);clear r8 k8))
 have hlv:=level_at HC.out;have HP8:=hide (show RKp D1 ((levelV cnt 1 14).foldl (stepPO zs 0) D1) 512 from by have h:=R8.out.2;rw[hlv.2.1,List.length_range, ←hlv.2.1] at h;exact⟨h.tr,h.cv,h.Lo,by have:=h.P;have:=HC.out;omega,h.Ln⟩);obtain⟨D2,hD2⟩:∃D2,D2=(levelV cnt 1 14).foldl (stepPO zs 0) D1:=⟨_,rfl⟩;have hR8:RSt W0 w8 b D2:=by rw[hD2];exact R8.out.1
 have HR8:=hide hR8;rw[←hD2] at HP8;have HD2:=hide hD2;clear hD2 hlv hR8 R8;go_upto_region 13 with(first
  |(go_at_call 63;refine(levelPO_any 1 (by omega) zs W0 _ b n cnt ca cc D2 HR8.out (by rw[HP8.out.cv,HP7.out.cv];rfl) (by have:=HCs.out;have:=HN.out;omega) HCnt.out HG.out (fun l _=>Nat.le_trans (HP8.out.Ln l) (by have:=HP7.out.Ln l;simp[rDO] at this;omega)) (Nat.le_trans HP8.out.P (by have:=HP7.out.P;simp[rDO] at this;omega)) (HRi.out.same (HP8.out.tr.trans HP7.out.tr)) (fun l r=>(HOi.out l r).same (HP8.out.Lo.trans HP7.out.Lo))).mono ?_;rintro e w9 ⟨rfl,r9,k9⟩;have R9:=hide r9;clear r9 k9))
 have hR9:RSt W0 w9 b D3:=by
  rw[HD.out];unfold rEO;rw[←HD1.out, ←HD2.out];exact R9.out
 have HR9:=hide hR9;obtain⟨C9,so9,sl9,fv9,pv9,vs9,hS9⟩:=hR9;have c25:=(hS9.now.box.cell 25).trans hS9.sh;have HL9:=hide hS9.low;clear hS9;cases hsh:D3.sh with
 |false=>
  rw[hsh] at c25;go_wp2;go_ret2;exact⟨.inl ⟨hsh,b,rfl,HR9.out⟩,HL9.out⟩
 |true=>
  rw[hsh] at c25;go_wp2;go_ret2;refine⟨.inr ⟨hsh,_,rfl,_,rfl,HL9.out.size,(Blk.new w9 _ _).cell 0⟩,HL9.out.trans ?_⟩;exact((Below.refl _ _).alloc (Nat.le_refl _) _).mono HL9.out.size
end
end Go.Proofs.YtbhpealglhkodaaGreatDoor
