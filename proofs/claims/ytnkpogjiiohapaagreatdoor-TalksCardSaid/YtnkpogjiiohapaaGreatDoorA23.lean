/- Our own text. -/
import Derived.Test.YtnkpogjiiohapaaGreatDoorA22
import Derived.Test.YtnkpogjiiohapaaGreatDoorA18
set_option linter.unusedSimpArgs false
set_option linter.unusedVariables false
set_option maxRecDepth 1000000
set_option maxHeartbeats 4000000
namespace Go.Proofs.YtnkpogjiiohapaaGreatDoor
section
variable {a d h:Nat}{b:Nat->List av}{e:bO}{f:List av}{i:Nat->Int}
def Ij (N:Nat) (M:Nat->List av):iH->Prop
 |.inl l=>l.length=N/\∀i,i<N->0<=rowOf l i/\rowOf l i<=(M i).length
 |.inr a=>∀y∈a,mV N M y
def tn (M:Nat->List av):Nat->Nat
 |0=>0
 |n+1=>tn M n+(M n).length
def tp (N:Nat) (M:Nat->List av) (a:Nat->Int) (d:Nat) (l:Nat->Int):Prop:=(∀i,i<N->0<=l i/\l i<=a i)/\∀y∈M d,l d<y.op.nth->∀e,e<N->∀g∈M e,g.op.nth<=l e->g.op.id.1<y.op.id.1
def DO (N:Nat) (M:Nat->List av) (a:Nat->Int) (d:Nat):iH->Prop
 |.inl l=>tp N M a d (rowOf l)
 |.inr _=>True
theorem tp.more{has l}(h:tp a b has d l)(f:∀c,c<a->has c<=i c):tp a b i d l:=⟨fun c e=>⟨(h.1 c e).1,aqh (h.1 c e).2 (f c e)⟩,h.2⟩
theorem DO.more{N:Nat}{M:Nat->List av}{has a:Nat->Int}{d:Nat}(b:∀i,i<N->has i<=a i):∀{m:iH},DO N M has d m->DO N M a d m
 |.inl _,h=>tp.more h b
 |.inr _,_=>trivial
theorem tp.max{N M a d l m}(h:tp N M a d l)(k:tp N M a d m):tp N M a d fun i=>Max.max (l i) (m i):=by
 refine⟨fun i b=> ?_,fun y c n e f g j o=> ?_⟩
 ·have :=h.1 i b
  have :=k.1 i b;simp only;omega
 ·simp only at n o
  by_cases p:g.op.nth<=l e
  ·exact h.2 y c (by omega) e f g j p
  ·exact k.2 y c (by omega) e f g j (by omega)
structure hP (N:Nat) (M:Nat->List av) (s:bO):Prop where
 made:jj N M
 copy:∀c,c<N->kI N M (s.gt c) (s.has c) (s.ops c) (s.early c)
 own:∀c,c<N->s.has c c=(M c).length
 kd:∀c,c<N->pH (s.ops c)
 wB:∀c,c<N->0<=s.gt c/\∀g:Int,(∀e,e<N->∀y∈M e,y.op.id.1<=g)->0<=g->s.gt c<=g
 cnt:∀e,e<N->∀y∈M e,y.op.id.1<=(tn M N:Int)
 msgs:∀c d,c<N->d<N->c≠d->∀m∈s.ms c d,Ij N M m
 mU:∀c,c<N->s.ops c=s.gone c++s.kept c
 wC:∀c d,c<N->d<N->c≠d->∀m∈s.ms c d,DO N M (s.has c) c m
 FV:∀c d,c<N->d<N->c≠d->tp N M (s.has d) d (s.lI c d)
 FW:∀c,c<N->∀g∈s.gone c,∀d,d<N->g.op.nth<=s.has d g.op.id.2.toNat
 FX:∀c,c<N->∀g∈s.gone c,∀d,d<N->∀y∈M d,s.has c d<y.op.nth->g.op.id.1<y.op.id.1
theorem hP.ms(c:hP d b e){l:List iH}(q:∀m∈l,Ij d b m)(r:∀m∈l,DO d b (e.has a) a m):hP d b (kX e a h l):=by
 refine⟨c.made,c.copy,c.own,c.kd,c.wB,c.cnt,fun f g j k n m i=> ?_,c.mU,fun f g j k n m i=> ?_,c.FV,c.FW,c.FX⟩
 all_goals(unfold kX at i;simp only at i)
 rotate_left
 ·by_cases o:f=a
  ·subst o
   by_cases p:g=h
   ·subst p
    rw[bN,bN]at i;exact r m i
   ·rw[bN,ck _ _ p]at i
    exact c.wC f g j k n m i
  ·rw[ck _ _ o]at i
   exact c.wC f g j k n m i
 by_cases o:f=a
 ·subst o
  by_cases p:g=h
  ·subst p
   rw[bN,bN]at i;exact q m i
  ·rw[bN,ck _ _ p]at i
   exact c.msgs f g j k n m i
 ·rw[ck _ _ o]at i
  exact c.msgs f g j k n m i
theorem QS(b:a<d):rowOf (kG d i) a=i a:=by simp[rowOf,kG,b]
theorem hP.ask(c:hP d b e)(g:a<d)(k:h<d)(l:a≠h):hP d b (DK d e a h):=by
 unfold DK;split
 ·exact c
 ·refine c.ms (fun m f=> ?_) (fun m f=> ?_)
  ·rcases aoZ.1 f with f|f
   ·exact c.msgs a h g k l m f
   ·obtain rfl:=ao2.1 f
    refine⟨ug _ _,fun i j=> ?_⟩;rw[QS j];exact(c.copy a g).kG i j
  ·rcases aoZ.1 f with f|f
   ·exact c.wC a h g k l m f
   ·obtain rfl:=ao2.1 f
    refine⟨fun i j=> ?_,fun y n o=> ?_⟩
    ·rw[QS j]
     exact⟨((c.copy a g).kG i j).1,apY _⟩
    ·exfalso
     rw[QS g,c.own a g]at o;obtain⟨i,j,_,_,p,_⟩:=c.made.at g n;omega
theorem hP.later(c:hP h b e)(j:a<h)(k:d<h)(n:a≠d):hP h b (LR e a d):=by
 have o:=c.msgs a d j k n;have p:=c.wC a d j k n;unfold LR;split
 ·exact c
 ·rename_i m l f
  rw[f]at o p;split
  ·exact c
  ·have q:∀g,g∈l++[m]->g∈m::l:=fun g i=>by
    rcases aoZ.1 i with i|i
    ·exact apa _ i
    ·obtain rfl:=ao2.1 i;exact ao6
   exact c.ms (fun g i=>o g (q g i)) (fun g i=>p g (q g i))
theorem Yi{m:iH}:∀{a c:List iH},m∈FU c a->m∈c\/m∈a
 |[],_,h=>.inl h
 |b::a,c,h=>by
  unfold FU at h;rcases Yi h with h|h
  ·split at h
   ·exact .inl h
   ·rcases aoZ.1 h with h|h
    ·exact .inl h
    ·exact .inr (by rw[ao2.1 h];exact ao6)
  ·exact .inr (apa _ h)
theorem Yj{m:iH}{c:Bool}{a b:List iH}(h:m∈vp c b a):m∈b\/m∈a:=by
 unfold vp at h;split at h
 ·exact .inl h
 ·exact Yi h
def Bx (N:Nat) (s:bO) (c d:Nat) (e:bO):Prop:=match s.ms c d with
 |[]=>e=s
 |.inl l::a=>∃b,b.Perm ((s.kept d).filter (r2 (rowOf l)))/\x8 b/\e=kX (DM (kX s c d a) d c (rowOf l)) d c (vp (s.sh d c) ((kX s c d a).ms d c) ((FI b (rowOf l) (s.has d) N).map (H4 b)))
 |.inr f::a=>∃g,vh (nW s d f) (qm (nW s d f) (s.has d) N) g/\e=r5 N (kX s c d a) d f g
theorem hP.wait(h:hP d b e)(c:a<d)(g:∀y∈f,mV d b y):r4 d b (nW e a f)/\((nW e a f).map (·.1)).Nodup:=⟨r4.all (h.copy a c).FR g,Xj (h.copy a c).QQ⟩
theorem Yk{x:av}:∀{g l:List av},(∀y∈g,eK y.op.id x.op.id=true)->lH x (g++l)=g++lH x l
 |[],_,_=>rfl
 |y::g,l,h=>by
  have e:lH x (y::(g++l))=y::lH x (g++l):=if_pos (h y ao6);show lH x (y::(g++l))=y::(g++lH x l);rw[e,Yk fun z a=>h z (apa _ a)]
theorem Yl{g:List av}:∀{a l:List av},(∀x∈a,∀y∈g,eK y.op.id x.op.id=true)->ja (g++l) a=g++ja l a
 |[],_,_=>rfl
 |x::a,l,h=>by
  show ja (lH x (g++l)) a=g++ja (lH x l) a;rw[Yk (h x ao6),Yl fun z b=>h z (apa _ b)]
theorem ahD{m}{has:Nat->Int}{y:av}(h:r4 a b m)(c:y∈iq m has d):has y.op.id.2.toNat<y.op.nth:=by
 unfold iq at c;obtain⟨i,_,k⟩:=api.1 c;obtain⟨j,l,e⟩:=apl.1 k;have f:=run_get m (i:Int) 61 (has i) j l;rw[e]at f;have g:=(h _ (fQ f)).2;unfold dX at g;injection g with n o;rw[<-n,<-o,aqN];omega
theorem hP.ahead(h:hP d b e)(j:a<d)(s:∀y∈f,mV d b y):ja (e.ops a) (mW d e a f)=e.gone a++ja (e.kept a) (mW d e a f):=by
 obtain⟨k,_⟩:=h.wait j s;rw[h.mU a j];refine Yl fun y l g t=> ?_
 have m:=ahD k l;obtain⟨p,u,c⟩:=LB l;have n:=(k p u).1;rw[c]at n;obtain⟨o,q,r⟩:=n;obtain⟨i,v,_,w,x,_⟩:=h.made.at q r;have :=h.FX a j g t o q y r (by rw[show y.op.id.2.toNat=o by omega]at m;exact m);exact(q3 _ _).2 (.inl this)
theorem hP.hear{x}(h:hP d b e)(E:a<d)(F:∀y∈f,mV d b y)(I:vh (nW e a f) (qm (nW e a f) (e.has a) d) x):hP d b (r5 d e a f x)/\((mW d e a f++e.ops a).map fun o=>o.op.id).Nodup:=by
 obtain⟨s,W⟩:=h.wait E F;have L:=(h.copy a E).heard h.made s I.sub I.ji;have M:((mW d e a f++e.ops a).map fun o=>o.op.id).Nodup:=((A8 (mW d e a f) (e.ops a)).map _).nodup_iff.1 (L.X8 h.made);have u:∀c i,c<d->i<d->e.has c i<=(r5 d e a f x).has c i:=fun c i n t=>by
  unfold r5 l4;by_cases j:c=a
  ·subst j
   simp only[bN];have z:=Ii (has:=e.has c) s d (aoP _);show _<=hasAll (e.has c) (mW d e c f) i;unfold mW;rw[z];exact(LS h.made (h.copy c n) s t).2.2
  ·simp only[ck _ _ j]
   exact apY _
 refine⟨⟨h.made,fun c n=> ?_,fun c n=> ?_,fun c n=> ?_,fun c n=> ?_,h.cnt,h.msgs,fun c n=> ?_,fun k l v w B m C=>(h.wC k l v w B m C).more fun i t=>u k i v t,fun k l v w B=>(h.FV k l v w B).more fun i t=>u l i w t,fun c n g q j r=> ?_,fun c n g q j r y D N=>h.FX c n g q j r y D (Int.lt_of_le_of_lt (u c j n r) N)⟩,M⟩
 ·unfold r5 l4
  by_cases j:c=a
  ·subst j
   simp only[bN];exact L
  ·simp only[ck _ _ j]
   exact h.copy c n
 ·unfold r5 l4
  by_cases j:c=a
  ·subst j
   simp only[bN];have z:=Ii (has:=e.has c) s d (aoP _);show hasAll (e.has c) (mW d e c f) c=_;unfold mW;rw[z];have X:=LS h.made (h.copy c n) s n;have Y:=h.own c n;omega
  ·simp only[ck _ _ j]
   exact h.own c n
 ·unfold r5 l4
  by_cases j:c=a
  ·subst j
   simp only[bN];exact Lq _ _ (h.kd c n) M
  ·simp only[ck _ _ j]
   exact h.kd c n
 ·unfold r5 l4
  by_cases j:c=a
  ·subst j
   simp only[bN];obtain⟨P,Q⟩:=h.wB c n;refine⟨aqh P (LU _ _).1,fun g q R=>Yd _ _ (Q g q R) fun y D=> ?_⟩;obtain⟨p,S,rfl⟩:=LB D;obtain⟨j,r,C⟩:=(s p S).1;exact q j r _ C
  ·simp only[ck _ _ j]
   exact h.wB c n
 ·unfold r5 l4
  by_cases j:c=a
  ·subst j
   simp only[bN];exact h.ahead n F
  ·simp only[ck _ _ j]
   exact h.mU c n
 ·have U:g∈e.ops c:=by rw[h.mU c n];exact apR _ q
  have eP:=(h.copy c n).copy h.made U;exact aqh (h.FW c n g q j r) (u j _ r (by omega))
theorem hP.fin(h:hP d b e)(c:a<d)(j:∀y∈f,mV d b y):((mW d e a f++e.kept a).map fun o=>o.op.id).Nodup/\(e.kept a).length+(mW d e a f).length<=d*60:=by
 obtain⟨k,n⟩:=h.wait c j;have g:=(h.copy a c).heard h.made k (m':=[]) (fun p (l:p∈[])=>absurd l aq9) apT;have i:(e.kept a).Sublist (e.ops a):=by rw[h.mU a c];exact List.sublist_append_right _ _
 refine⟨(((A8 (mW d e a f) (e.ops a)).map _).nodup_iff.1 (g.X8 h.made)).sublist (((List.Sublist.refl _).append i).map _),?_⟩;have m:=g.len h.made;have q:=i.length_le;rw[PN]at m;have r:(mW d e a f).length=(iq (nW e a f) (e.has a) d).length:=rfl;omega
theorem hP.LY(h:hP d b e)(c:a<d):(e.kept a).Sublist (e.ops a):=by rw[h.mU a c];exact List.sublist_append_right _ _
theorem hP.Ql(c:hP h b e)(p:tp h b (e.has a) a i):hP h b (DM e d a i):=by
 refine⟨c.made,c.copy,c.own,c.kd,c.wB,c.cnt,c.msgs,c.mU,c.wC,fun g f k l m=> ?_,c.FW,c.FX⟩;show tp h b (e.has f) f (upd e.lI d (upd (e.lI d) a fun j=>max (e.lI d a j) (i j)) g f);by_cases n:g=d
 ·subst n
  by_cases o:f=a
  ·subst o
   rw[bN,bN];exact(c.FV g f k l m).max p
  ·rw[bN,ck _ _ o]
   exact c.FV g f k l m
 ·rw[ck _ _ n]
  exact c.FV g f k l m
theorem hP.QT{t}(c:hP h b e)(o:d<h)(j:a<h)(p:d≠a)(n:Bx h e d a t):hP h b t:=by
 have r:=c.msgs d a o j p;have s:=c.wC d a o j p;unfold Bx at n;cases f:e.ms d a with
 |nil=>rw[f]at n;rw[n];exact c
 |cons m u=>
  rw[f]at n r s;have q:hP h b (kX e d a u):=c.ms (fun k i=>r k (apa _ i)) (fun k i=>s k (apa _ i));cases m with
  |inl l=>
   obtain⟨D,v,E,rfl⟩:=n;have w:hP h b (DM (kX e d a u) a d (rowOf l)):=q.Ql (s _ ao6);refine w.ms (fun k i=> ?_) (fun k i=> ?_)
   ·rcases Yj i with i|i
    ·exact q.msgs a d j o (ao5 p) k i
    ·obtain⟨g,x,rfl⟩:=aoX.1 i
     intro y z;have B:=ap0 (apx z);exact(c.copy a j).made ((c.LY j).subset (apA.1 (v.mem_iff.1 B)).1)
   ·rcases Yj i with i|i
    ·exact q.wC a d j o (ao5 p) k i
    ·obtain⟨g,x,rfl⟩:=aoX.1 i
     trivial
  |inr F=>
   obtain⟨I,C,rfl⟩:=n;exact(q.hear j (r _ ao6) C).1
def eU (o:nP):bu:=match o.chg with
 |.inl l=>⟨o.id,1,l,(0,0),⟨#[]⟩,(0,0),(0,0),0,(0,0),[]⟩
 |.inr (.inl (x,b))=>⟨o.id,2,false,x,⟨#[]⟩,(0,0),b,0,(0,0),[]⟩
 |.inr (.inr (.inl (a,c,x,e,d)))=>⟨o.id,3,false,a,c,x,(0,0),e.1,e.2,d⟩
 |.inr (.inr (.inr (a,c,x,d)))=>⟨o.id,4,false,a,c,x,(0,0),0,(0,0),d⟩
theorem pO(o:nP):(eU o).id=o.id:=by
 unfold eU;split <;>rfl
theorem ahE(o:nP):zk (eU o) o.nth=o:=by
 obtain⟨id,f,a⟩:=o;rcases a with l|⟨x,b⟩|⟨c,d,x,g,e⟩|⟨c,d,x,e⟩<;>simp[eU,zk,Hn]
def cn (a:List av):List ba:=(a.map fun o=>eU o.op).foldl b0 c2
theorem o2.root:o2 c2 []:=by
 have b:∀x o,bl c2 x=some o->x=(0,0)/\o.ss=[]:=fun x o h=>by
  have c:=Hl h;unfold bl c2 at h;simp only[aqB,List.find?_nil]at h;split at h
  ·cases h
   exact⟨c.symm,rfl⟩
  ·cases h
 refine⟨fun x o h=>.inl (b x o h).1,fun x o h s a=> ?_,fun x o h s a=> ?_⟩
 ·rw[(b x o h).2]at a;cases a
 ·rw[(b x o h).2]at a;cases a
theorem o2.all:∀(S:List bu) (R:List ba) (I:List PId),o2 R I->o2 (S.foldl b0 R) ((S.map bu.id).reverse++I)
 |[],R,I,h=>h
 |p::S,R,I,h=>by
  have :=o2.all S (b0 R p) (p.id::I) (h.mo p);simpa using this
def Ik (c:List av):kS->Prop
 |.inr (.inr (.inl (_,a,x,b,_)))=>(a≠⟨#[]⟩->x=(0,0))/\(b.2=(0,0)\/∃y∈c,y.op.id=b.2/\∃l,y.op.chg=.inl l)
 |.inr (.inr (.inr (_,a,x,_)))=>a≠⟨#[]⟩->x=(0,0)
 |_=>True
def Bz (N:Nat) (M:Nat->List av):Prop:=∀c,c<N->∀i (a:i<(M c).length),Ik ((M c).take i) (M c)[i].op.chg
theorem Ym{N M gt has n early}(m:jj N M)(L:Bz N M)(h:kI N M gt has n early)(P:pH n):∀(S k:List av) (I j3:List PId),k++S=n->(∀z∈I,∃y∈k,y.op.id=z)->(0,0)∈j3->(∀y∈k,(∃l,y.op.chg=.inl l)->y.op.id∈j3)->DH I j3 (S.map fun o=>eU o.op)
 |[],_,_,_,_,_,_,_=>trivial
 |o::S,k,I,j3,r,Q,R,s=>by
  have t:o∈n:=by rw[<-r];simp
  obtain⟨c,p,yB⟩:=h.made t;obtain⟨i,U,e,b1,a2,W⟩:=m.at p yB;have g:=L c p i U;rw[<-e]at g;have X:=P;rw[<-r]at X;obtain⟨_,iU,ahF⟩:=ap9.1 X;have nR:∀y∈k,eK y.op.id o.op.id=true:=fun y a=>ahF y a o ao6
  have ahG:∀y∈S,eK o.op.id y.op.id=true:=(apP.1 iU).1;have N3:∀y∈(M c).take i,y∈k:=fun y a=>by
   obtain⟨j,ar,u⟩:=apl.1 a;rw[ao7]at ar;rw[aqo]at u;have Y:j<(M c).length:=by omega
   obtain⟨bx,bT,gR⟩:=m.id c p j Y;rw[u]at bx bT gR;have QV:mV N M y:=⟨c,p,apx a⟩;have hn:=(h.mem m (h.made t)).1 t;have p7:o.op.id.2.toNat=c:=by omega
   have ahH:y.op.id.2.toNat=c:=by omega
   rw[p7]at hn;have Yo:y∈n:=(h.mem m QV).2 (by rw[ahH];omega);have aE:y.op.id.1<o.op.id.1:=by
    have :=apM.1 (m.kd c p) j i Y U (by omega);rw[u,<-e]at this;exact this
   have f:eK y.op.id o.op.id=true:=(q3 _ _).2 (.inl aE);rw[<-r]at Yo;rcases aoZ.1 Yo with q|q
   ·exact q
   ·rcases ao3.1 q with rfl|q
    ·rw[uc]at f;cases f
    ·have :=A7 f (ahG y q)
     rw[uc]at this;cases this
  show DH I j3 (eU o.op::S.map fun o=>eU o.op);have ahI:=Ym m L h P S (k++[o]) ((eU o.op).id::I) (if(eU o.op).kind=1 then(eU o.op).id::j3 else j3) (by rw[apf];exact r) (fun z v=>by
   rcases ao3.1 v with rfl|v
   ·exact⟨o,by simp,(pO o.op).symm⟩
   ·obtain⟨y,a,e'⟩:=Q z v
    exact⟨y,apR _ a,e'⟩) (by split <;>simp[R]) (fun y a f=>by
   rcases aoZ.1 a with a|a
   ·split
    ·exact apa _ (s y a f)
    ·exact s y a f
   ·obtain rfl:=ao2.1 a
    obtain⟨l,f⟩:=f;have d:(eU y.op).kind=1:=by unfold eU;rw[f]
    rw[if_pos d,pO];exact ao6)
  refine⟨?_,?_,?_,?_,?_,ahI⟩
  ·unfold eU
   split <;>simp
  ·rw[pO]
   intro w;rw[w]at W;simp at W
  ·rw[pO]
   intro jr;obtain⟨y,a,B⟩:=Q _ jr;have :=nR y a;rw[B,uc]at this;cases this
  ·intro d
   unfold eU at d⊢
   revert g d
   rcases o.op.chg with l|⟨x,b⟩|⟨C,D,x,val,E⟩|⟨C,D,x,E⟩
   ·intro _ d;simp at d
   ·intro _ d;simp at d
   ·intro g _ F;exact g.1 F
   ·intro g _ F;exact g F
  ·intro d
   unfold eU at d⊢
   revert g d
   rcases o.op.chg with l|⟨x,b⟩|⟨C,D,x,val,E⟩|⟨C,D,x,E⟩
   ·intro _ d;simp at d
   ·intro _ d;simp at d
   ·intro g _
    rcases g.2 with w|⟨y,a,B,f⟩
    ·simp only[w];exact R
    ·simp only
     rw[<-B];exact s y (N3 y a) f
   ·intro _ d;simp at d
theorem Yp{gt early}(c:jj a b)(d:Bz a b)(h:kI a b gt i f early)(e:pH f):DH [] [(0,0)] (f.map fun o=>eU o.op):=Ym c d h e f [] [] [(0,0)] rfl (fun _ g=>by cases g) (by simp) (fun _ j=>by cases j)
theorem ahJ{D0 D}(d:eA c2 D0)(g:fG D0)(h:DH [] [(0,0)] (f.map fun o=>eU o.op))(j:mN D0 (f.map (·.op)) D):eA (cn f) D/\fG D/\o2 (cn f) ((f.map fun o=>o.op.id).reverse):=by
 have k:(List.range (f.map fun o=>eU o.op).length).map (fun i=>zk ((f.map fun o=>eU o.op).getD i ⟨(0,0),0,false,(0,0),⟨#[]⟩,(0,0),(0,0),0,(0,0),[]⟩) ((f.map fun o=>o.op.nth).getD i 0))=f.map (·.op):=by
  apply aqz
  ·simp
  ·intro i n l
   have c:i<f.length:=by simpa using l
   simp only[apy,List.getElem_range];rw[show(f.map fun o=>eU o.op).getD i ⟨(0,0),0,false,(0,0),⟨#[]⟩,(0,0),(0,0),0,(0,0),[]⟩=eU f[i].op by simp[List.getD,c],show(f.map fun o=>o.op.nth).getD i 0=f[i].op.nth by simp[List.getD,c]];exact ahE _
 obtain⟨a,b⟩:=eA.all (f.map fun o=>eU o.op) (fun i=>(f.map fun o=>o.op.nth).getD i 0) c2 D0 D [] [(0,0)] d g o2.root (fun x m=>by
  obtain rfl:=ao2.1 m;exact⟨⟨(0,0),false,[]⟩,rfl⟩) h (by rw[k];exact j)
 refine⟨a,b,?_⟩;have :=o2.all (f.map fun o=>eU o.op) c2 [] o2.root;rw[apu,apI]at this;have e:(bu.id∘fun o:av=>eU o.op)=fun o=>o.op.id:=by
  funext o;exact pO o.op
 rw[e]at this;exact this
end
section
open Go.RowKit Tryz
attribute [local go_sem ↓] Go.wp_at_zero Go.wp_at_succ
variable {a d k l:Nat}{b:World}{e:List av}{f:Nat->Int}{h j:Nat->Prop}{i:fU}{m:PId}{n:ba}
theorem LZ{f g c h e x y z:Value}{t j:TypeId}(k:b.heap[a]?=some (.cells #[f,g,c,h,e] t (0,0)))(i:b.heap[d]?=some (.cells #[x,y,z] j (0,0))):
  b.cell? (H a)=some f/\b.cell? (K a 1)=some g/\b.cell? (K a 2)=some c/\b.cell? (K a 3)=some h/\b.cell? (K a 4)=some e/\b.cell? (H d)=some x/\b.cell? (K d 1)=some y/\b.cell? (K d 2)=some z:=by
 obtain⟨l,m,n,o,p⟩:=ga k;exact⟨l,m,n,o,p,by simp[World.cell?,i],by simp[World.cell?,i],by simp[World.cell?,i]⟩
structure FY (c:Nat) (gt:Int) (has:Nat->Int) (ops:List av) (q:fU):Prop where
 g:0<=gt/\gt<=90000
 h:0<=has c/\has c<=60
 old:∀o∈ops,o.op.id.1<=gt
 len:ops.length<=290
 gr:∀aW key el,(eY q.D.1 q.D.2 aW key el).aB.length<=10000/\((eY q.D.1 q.D.2 aW key el).aB.map (·.1)).Nodup
def yh (F I:Nat->Prop) (N g c h:Nat) (gt:Int) (a:Nat->Int) (i:List av) (early:List (PId×av)) (q:fU) (w d:World) (j:kS):Prop:=∃t v e b f,dx d h e b N g c (gt+1) (upd a c (a c+1)) (i++[ke c gt a j t v]) early f/\Fl q f/\c0 F e w d/\(∀k,I k->b k)/\∀k,b k->I k\/w.heap.size<=k
theorem Yq{gt early}(c:dx b d j h k l a gt f e early i)(n:FY a gt f e i)(p:Bool):
  O 73 #[Z d,.bool p] b fun m w'=>m=.returned (.agg #[A (gt+1),A a])/\yh j h k l a d gt f e early i b w' (.inl p):=by
 have s:=aa ((aoQ b.heap.size b).alloc (aoP _) (.cells #[A 0,A 0] 36));have t:=aa c.lt;have D:=aa c.cJ;have E:=aa (Ls (c.af s.o) ⟨n.g.1,by have :=n.g.2;omega⟩ ⟨n.h.1,by have :=n.h.2;omega⟩ n.old (by have :=n.len;omega) 197 (.agg #[.bool p]) (.inl p) rfl);clear c n;have F:=aa (bL b (.cells #[A 0,A 0] 36));go_enter func73,ntmps73;go_wp2_with fail
 refine E.o.mono ?_;rintro m I ⟨rfl,u,L,w,x,r⟩;have q:I.heap[b.heap.size]?=some (.cells #[A 0,A 0] 36 (0,0)):=(r.other _ (by simp) (fun hF=>by have :=t.o _ hF;omega)).trans F.o;obtain⟨M,N⟩:=bh q;have S:=cS q;have U:=aM q;have P:=aa w;have z:=aa r;have Q:=aa x;clear w r q x;go_wp2;refine bodyPost_ret (v:=.agg #[A (gt+1),A a]) (by simp[results,results73,go_sem,M,N]) rfl ?_;have B:¬u b.heap.size:=fun hF=>by
  rcases z.o.sub _ hF with c|c
  ·have :=t.o _ c;omega
  ·simp at c;omega
 have C:¬h b.heap.size:=fun R=>by have :=D.o _ R;omega
 exact⟨rfl,_,_,u,h,L,(P.o.set _ B C).set _ B C,Q.o,((z.o.before s.o).va (aoP _) _).va (aoP _) _,fun _ y=>y,fun _ y=>.inl y⟩
theorem L0{F gt early}(h:dx b a F j k l d gt f e early i)(z:FY d gt f e i)(p q:PId)(s:ByteArray)(n:dR):
  O 62 #[Z a,.agg #[A p.1,A p.2,.string s,A q.1,A q.2],.agg #[A n.1,A n.2.1,A n.2.2]] b fun m w'=>(∃r,m=.returned r)/\∃y,y.Perm ((eY i.D.1 i.D.2 p s q).aB.map (·.1))/\mR y/\yh F j k l d a gt f e early i b w' (.inr (.inr (.inl (p,s,q,n,y)))):=by
 have P:=aa h.lt;have cZ:=aa h;have Q:=aa (((aoQ b.heap.size b).alloc (aoP _) (.cells #[A p.1,A p.2,.string s,A q.1,A q.2] 97)).alloc (by simp) (.cells #[A n.1,A n.2.1,A n.2.2] 57));have fO:=aa (fun W (B:J b W)=>x5 (h.af B));have fi:=aa (fun W (B:J b W)=>W5 (h.af B).jM.q p.1 p.2 q.1 q.2 s (z.gr p s q).1 (z.gr p s q).2);have rO:=aa (fun(W:World) (B:J b W) (E:Nat->Prop) (x:∀c,j c->E c) (h2:∀c,E c->c<W.heap.size) (ak:∀c,E c->¬F c) (t:TypeId) (v:Value) (chg:kS) (al:pF W E (.iface t v) chg)=>Ls ((h.af B).zr x h2 ak) ⟨z.g.1,by have :=z.g.2;omega⟩ ⟨z.h.1,by have :=z.h.2;omega⟩ z.old (by have :=z.len;omega) t v chg al);clear h z;go_enter func62,ntmps62;go_wp2_with fail
 have ko:=aa ((hV (b.alloc (.cells #[A p.1,A p.2,.string s,A q.1,A q.2] 97)) (.cells #[A n.1,A n.2.1,A n.2.2] 57) (r:=b.heap.size) (by simp)).trans (bL b _));have Il:=aa (show((b.alloc (.cells #[A p.1,A p.2,.string s,A q.1,A q.2] 97)).alloc (.cells #[A n.1,A n.2.1,A n.2.2] 57)).heap[b.heap.size+1]?=some (.cells #[A n.1,A n.2.1,A n.2.2] 57 (0,0)) by
  have :=bL (b.alloc (.cells #[A p.1,A p.2,.string s,A q.1,A q.2] 97)) (.cells #[A n.1,A n.2.1,A n.2.2] 57);rw[show(b.alloc (.cells #[A p.1,A p.2,.string s,A q.1,A q.2] 97)).heap.size=b.heap.size+1 by simp]at this;exact this)
 go_region_held3 (fun W=>W.cell? (V b 0)=some (A p.1)/\W.cell? (V b 1)=some (A p.2)/\W.cell? (V b 2)=some (.string s)/\W.cell? (V b 3)=some (A q.1)/\W.cell? (V b 4)=some (A q.2)/\
   W.cell? (H (b.heap.size+1))=some (A n.1)/\W.cell? (K (b.heap.size+1) 1)=some (A n.2.1)/\W.cell? (K (b.heap.size+1) 2)=some (A n.2.2)) (first |exact LZ ko.o Il.o|exact LZ hY.o OH.o|exact LZ R.o S.o|exact LZ jo.o qv.o)
  (first
   |(go_at_call 48;refine(fO.o _ Q.o.drew).mono ?_;rintro m w1 ⟨rfl,I⟩;have jo:=aa (bj ko.o (Hq.o (mq I)));have qv:=aa (bj Il.o (Hq.o (mq I)));have C:=aa (Q.o.drew.trans (I.mono Q.o.size));clear I)
   |(go_at_call 92;refine(fi.o w1 C.o).mono ?_;rintro m w2 ⟨u,y,rfl,ag,au,L,M⟩;have R:=aa (bj jo.o M);have S:=aa (bj qv.o M);obtain⟨U,X,rfl,_,_,_⟩:=bp L;have gi:=aa (show er w2 (.slice U y.length X) y from L.ids);have Y:=aa (fun c (w:(Value.slice U y.length X).ownBlock=some c)=>aoT L c w);have bf:=aa (C.o.trans (M.mono C.o.size));have zB:=aa (And.intro ag au);clear L M ag au)
   |(go_at_call 91;refine(rO.o w2 bf.o (fun c=>j c\/(Value.slice U y.length X).ownBlock=some c) (fun c w=>.inl w) (fun c w=>w.elim (fun x=>aoV (cZ.o.cJ c x) bf.o.size) fun x=>(Y.o c x).2) (fun c w hF=>w.elim (fun x=>cZ.o.eT c x hF) fun x=>by have :=(Y.o c x).1;have :=P.o c hF;have :=C.o.size;omega) 182 _ (.inr (.inr (.inl (p,s,q,n,y)))) ?mK).mono ?_;(case mK=>exact⟨_,rfl,gi.o,fun c w=>.inr w⟩);rintro m w3 ⟨rfl,aS,fV,fk,lY,N⟩;have hY:=aa ((N.other _ (aM R.o) (fun hF=>by have :=P.o _ hF;omega)).trans R.o);have OH:=aa ((N.other _ (aM S.o) (fun hF=>by have :=P.o _ hF;omega)).trans S.o);have ht:=aa fk;have ni:=aa N;have e5:=aa lY;clear fk N lY))
 all_goals go_wp2
 all_goals go_end0
 all_goals exact⟨⟨_,rfl⟩,y,zB.o.1,zB.o.2,_,_,aS,_,fV,ht.o,e5.o,ni.o.before bf.o,fun c w=>.inl w,fun c w=>w.imp id fun x=>aoS C.o.size (Y.o c x).1⟩
theorem yh.before{F I N a c b gt d e early q f g}{w W:World}(i:J w W)(h:yh F I N a c b gt d e early q W f g):yh F I N a c b gt d e early q w f g:=by
 obtain⟨t,v,j,l,m,n,o,p,r,s⟩:=h;exact⟨t,v,j,l,m,n,o,p.before i,r,fun k u=>(s k u).imp id fun y=>aoS i.size y⟩
theorem Yr{a b}(h:xQ a m n b)(c:n.list=true):(n.ss.map bU.id).filter (p9 a)=dw n:=by
 unfold dw;rw[List.filter_map];congr 1;apply List.filter_congr;intro s d;obtain⟨_,_,e,f,_,g⟩:=h.elems c s d;simp only[Function.comp,p9,f];rw[g.length_eq,aoU]
theorem Ys{c d u v:Value}{t:TypeId}(h:b.heap[a]?=some (.cells #[c,d] t (0,0))):((b.setCell (H a) u).setCell (K a 1) v).heap[a]?=some (.cells #[u,v] t (0,0)):=by
 have e:=setRow (i:=1) (u:=v) (setRow (i:=0) (u:=u) h);simpa using e
theorem dx.elements{c gt early R}(g:dx b a h j k l c gt f e early i)(p:eA R i.D)(s:bl R m=some n)(q:n.list=true)(t:n.ss.length<=10000)(W:World)(v:J b W):
  O 57 #[Z i.d,.agg #[A m.1,A m.2]] W fun o r=>∃u,o=.returned u/\gu W.heap.size r u (dw n)/\J W r:=by
 obtain⟨x,w,p⟩:=p.bg m n s;have :=U0 (g.jM.q.af v) m.1 m.2 w (p.list.trans q) (p.chain q) (by rw[aoU];exact t);rw[Yr p q]at this;exact this
theorem Yt{gt early}(g:dx b d h j k l a gt f e early i)(B:FY a gt f e i)(m p:PId)(q:ByteArray)(n:Int):
  O 47 #[Z d,.agg #[A m.1,A m.2,.string q,A p.1,A p.2],A n] b fun c C=>(f a<60/\c=.returned (A 0)/\∃s,s.Perm ((eY i.D.1 i.D.2 m q p).aB.map (·.1))/\mR s/\yh h j k l a d gt f e early i b C (.inr (.inr (.inl (m,q,p,(n,(0,0)),s)))))\/(¬f a<60/\c=.returned (A 8)/\J b C):=by
 have v:=aa ((aoQ b.heap.size b).alloc (aoP _) (.cells #[A m.1,A m.2,.string q,A p.1,A p.2] 97));have L:=aa (HN (g.af v.o) 1 (by omega));have M:=aa (fun W (N:J b W)=>L0 (g.af N) B m p q (n,(0,0)));clear g B;have P:=aa (bL b (.cells #[A m.1,A m.2,.string q,A p.1,A p.2] 97));go_enter func47,ntmps47;go_wp2_with fail
 refine L.o.mono ?_;rintro c Q ⟨rfl,w⟩;obtain⟨R,S,U,X,Y⟩:=ga (bj P.o w);have x:=aa (v.o.trans (w.mono v.o.size));clear w;by_cases u:f a<60
 ·have t:decide (f a+((1:Nat):Int)<=60)=true:=decide_eq_true (by omega)
  rw[t];have y:=aa u;clear u t;go_wp2_with fail
  refine(M.o Q x.o).mono ?_;rintro c w2 ⟨⟨r,rfl⟩,s,E,F,I⟩;have z:=aa (And.intro E (And.intro F I));clear E F I;go_wp2;go_ret
  exact .inl ⟨y.o,rfl,s,z.o.1,z.o.2.1,z.o.2.2.before x.o⟩
 ·have t:decide (f a+((1:Nat):Int)<=60)=false:=decide_eq_false (by omega)
  rw[t];have y:=aa u;clear u t;go_wp2;go_ret
  exact .inr ⟨y.o,rfl,x.o⟩
theorem Yu{F gt early}(h:dx b d F j k l a gt f e early i)(x:FY a gt f e i)(n p:PId)(s:ByteArray):
  O 65 #[Z d,.agg #[A n.1,A n.2,.string s,A p.1,A p.2]] b fun m w'=>(f a<60/\m=.returned (A 0)/\∃w,w.Perm ((eY i.D.1 i.D.2 n s p).aB.map (·.1))/\mR w/\yh F j k l a d gt f e early i b w' (.inr (.inr (.inr (n,s,p,w)))))\/(¬f a<60/\m=.returned (A 8)/\J b w'):=by
 have du:=aa h.lt;have cZ:=aa h;have M:=aa ((aoQ b.heap.size b).alloc (aoP _) (.cells #[A n.1,A n.2,.string s,A p.1,A p.2] 97));have bG:=aa (HN (h.af M.o) 1 (by omega));have fO:=aa (fun W (y:J b W)=>x5 (h.af y));have fi:=aa (fun W (y:J b W)=>W5 (h.af y).jM.q n.1 n.2 p.1 p.2 s (x.gr n s p).1 (x.gr n s p).2);have rO:=aa (fun(W:World) (y:J b W) (C:Nat->Prop) (r:∀c,j c->C c) (h2:∀c,C c->c<W.heap.size) (ak:∀c,C c->¬F c) (t:TypeId) (v:Value) (chg:kS) (al:pF W C (.iface t v) chg)=>Ls ((h.af y).zr r h2 ak) ⟨x.g.1,by have :=x.g.2;omega⟩ ⟨x.h.1,by have :=x.h.2;omega⟩ x.old (by have :=x.len;omega) t v chg al);clear h x;have ko:=aa (bL b (.cells #[A n.1,A n.2,.string s,A p.1,A p.2] 97));go_enter func65,ntmps65;go_wp2_with fail
 refine bG.o.mono ?_;rintro m w1 ⟨rfl,N⟩;have jo:=aa (bj ko.o N);have E:=aa (M.o.trans (N.mono M.o.size));clear N;by_cases I:f a<60
 ·have z:decide (f a+((1:Nat):Int)<=60)=true:=decide_eq_true (by omega)
  rw[z];have P:=aa I;clear I z;go_wp2_with fail
  go_region_held3 (fun W=>W.cell? (V b 0)=some (A n.1)/\W.cell? (V b 1)=some (A n.2)/\W.cell? (V b 2)=some (.string s)/\W.cell? (V b 3)=some (A p.1)/\W.cell? (V b 4)=some (A p.2)) (first |exact ga jo.o|exact ga OG.o|exact ga Q.o|exact ga iQ.o)
   (first
    |(go_at_call 48;refine(fO.o _ E.o.drew).mono ?_;rintro m w2 ⟨rfl,R⟩;have iQ:=aa (bj jo.o (Hq.o (mq R)));have B:=aa (E.o.drew.trans (R.mono E.o.size));clear R)
    |(go_at_call 92;refine(fi.o w2 B.o).mono ?_;rintro m w3 ⟨u,w,rfl,ag,au,L,S⟩;have Q:=aa (bj iQ.o S);obtain⟨U,X,rfl,_,_,_⟩:=bp L;have gi:=aa (show er w3 (.slice U w.length X) w from L.ids);have Y:=aa (fun c (q:(Value.slice U w.length X).ownBlock=some c)=>aoT L c q);have bK:=aa (B.o.trans (S.mono B.o.size));have zB:=aa (And.intro ag au);clear L S ag au)
    |(go_at_call 91;refine(rO.o w3 bK.o (fun c=>j c\/(Value.slice U w.length X).ownBlock=some c) (fun c q=>.inl q) (fun c q=>q.elim (fun r=>aoV (cZ.o.cJ c r) bK.o.size) fun r=>(Y.o c r).2) (fun c q hF=>q.elim (fun r=>cZ.o.eT c r hF) fun r=>by have :=(Y.o c r).1;have :=du.o c hF;have :=B.o.size;omega) 184 _ (.inr (.inr (.inr (n,s,p,w)))) ?mK).mono ?_;(case mK=>exact⟨_,rfl,gi.o,fun c q=>.inr q⟩);rintro m w4 ⟨rfl,aS,fV,HO,QY,ql⟩;have OG:=aa ((ql.other _ (aM Q.o) (fun hF=>by have :=du.o _ hF;omega)).trans Q.o);have oV:=aa HO;have Fq:=aa ql;have rf:=aa QY;clear HO ql QY))
  all_goals go_wp2
  all_goals go_ret
  all_goals exact .inl ⟨P.o,rfl,w,zB.o.1,zB.o.2,_,_,aS,_,fV,oV.o,rf.o,Fq.o.before bK.o,fun c q=>.inl q,fun c q=>q.imp id fun r=>aoS B.o.size (Y.o c r).1⟩
 ·have z:decide (f a+((1:Nat):Int)<=60)=false:=decide_eq_false (by omega)
  rw[z];have P:=aa I;clear I z;go_wp2;go_ret
  exact .inr ⟨P.o,rfl,E.o⟩
theorem Yv{F gt early R}(h:dx b d F j k l a gt f e early i)(w:FY a gt f e i)(cI:eA R i.D)(ae:bl R m=some n)(bo:n.list=true)(kr:n.ss.length<=300)(q:Int){o:PId}(t:jL (dw n) q=some o):
  O 61 #[Z d,.agg #[A m.1,A m.2],A q] b fun r w'=>r=.returned (.agg #[A (gt+1),A a])/\yh F j k l a d gt f e early i b w' (.inr (.inl (m,o))):=by
 have du:=aa h.lt;have QX:=aa h.cJ;have z:=aa (((((aoQ b.heap.size b).alloc (aoP _) (.cells #[A m.1,A m.2] 36)).alloc (by simp <;>omega) (.cells #[A 0,A 0] 36)).alloc (by simp <;>omega) (.cells #[A 0,A 0] 36)));have fO:=aa (fun W (ab:J b W)=>x5 (h.af ab));have cG:=aa (h.elements cI ae bo (by omega));have rO:=aa (fun(W:World) (ab:J b W)=>Ls (h.af ab) ⟨w.g.1,by have :=w.g.2;omega⟩ ⟨w.h.1,by have :=w.h.2;omega⟩ w.old (by have :=w.len;omega) 179 (.agg #[A m.1,A m.2,A o.1,A o.2]) (.inr (.inl (m,o))) rfl);have fl:(dw n).length<=300:=by
  have ak:(dw n).length<=n.ss.length:=by unfold dw;rw[aoU];exact apK _ _
  omega
 clear h ae bo w cI kr;unfold jL at t;have pj:¬(q<0\/q>(dw n).length):=fun ay=>by rw[if_pos ay]at t;cases t
 rw[if_neg pj]at t;have cU:=aa (show(((b.alloc (.cells #[A m.1,A m.2] 36)).alloc (.cells #[A 0,A 0] 36)).alloc (.cells #[A 0,A 0] 36)).heap[b.heap.size]?=some (.cells #[A m.1,A m.2] 36 (0,0)) from(hV _ _ (by simp;omega)).trans ((hV _ _ (by simp)).trans (bL b _)));have bS:=aa (show(((b.alloc (.cells #[A m.1,A m.2] 36)).alloc (.cells #[A 0,A 0] 36)).alloc (.cells #[A 0,A 0] 36)).heap[b.heap.size+1]?=some (.cells #[A 0,A 0] 36 (0,0)) from(hV _ _ (by simp)).trans (by
  have :=bL (b.alloc (.cells #[A m.1,A m.2] 36)) (.cells #[A 0,A 0] 36);rw[show(b.alloc (.cells #[A m.1,A m.2] 36)).heap.size=b.heap.size+1 by simp]at this;exact this))
 have cz:=aa (show(((b.alloc (.cells #[A m.1,A m.2] 36)).alloc (.cells #[A 0,A 0] 36)).alloc (.cells #[A 0,A 0] 36)).heap[b.heap.size+1+1]?=some (.cells #[A 0,A 0] 36 (0,0)) from(by
  have :=bL ((b.alloc (.cells #[A m.1,A m.2] 36)).alloc (.cells #[A 0,A 0] 36)) (.cells #[A 0,A 0] 36);rw[show((b.alloc (.cells #[A m.1,A m.2] 36)).alloc (.cells #[A 0,A 0] 36)).heap.size=b.heap.size+1+1 by simp]at this;exact this))
 have S:=aa (show ∀p,b.heap.size<=p->¬F p from fun p hk hF=>by have :=du.o p hF;omega);have Yw:=aa (show ∀p,b.heap.size<=p->¬j p from fun p hk hF=>by have :=QX.o p hF;omega);by_cases bJ:q=0
 ·subst bJ
  rw[if_pos rfl]at t;cases t;go_enter func61,ntmps61;go_wp2_with fail
  refine(rO.o _ z.o).mono ?_;rintro r B ⟨rfl,C,fV,E,I,x⟩;have s:=(x.other _ (aM bS.o) (S.o _ (by omega))).trans bS.o;obtain⟨fz,eJ⟩:=bh s;have kT:=cS s;have Ft:=aM s;have ht:=aa E;have L:=aa x;have e5:=aa I;clear E x s I;go_wp2;refine bodyPost_ret (v:=.agg #[A (gt+1),A a]) (by simp[results,results61,go_sem,fz,eJ]) rfl ?_;have M:¬C (b.heap.size+1):=fun hF=>by
   rcases L.o.sub _ hF with h|h
   ·exact S.o _ (by omega) h
   ·simp at h;omega
  have N:=Yw.o (b.heap.size+1) (by omega);exact⟨rfl,_,_,C,j,fV,(ht.o.set _ M N).set _ M N,e5.o,((L.o.before z.o).va (by omega) _).va (by omega) _,fun _ y=>y,fun _ y=>.inl y⟩
 ·rw[if_neg bJ]at t
  obtain⟨c,rfl⟩:∃c:Nat,q=(c:Int)+1:=⟨(q-1).toNat,by omega⟩;rw[show((c:Int)+1-1).toNat=c by omega]at t;obtain⟨ar,yi⟩:=aqv.1 t;have Ap:(0:Int)<=(c:Int):=ao0 _;have r6:(c:Int)<((dw n).length:Int):=by omega
  have Io:=aa yi;clear t yi;have hjs:(c:Int)+1-1=(c:Int):=by omega
  have hjw:IntKind.i64.wrap (c:Int)=(c:Int):=apO _ (by omega);have ix:c<(dw n).length:=ar;obtain⟨U,X⟩:=bh cU.o;go_enter func61,ntmps61;go_wp2_with fail
  go_region_with (first
   |(go_at_call 48;refine(fO.o _ z.o.drew).mono ?_;rintro r w1 ⟨rfl,s⟩;have Y:=Hq.o (mq s);have l5:=aa (bj cU.o Y);have dM:=aa (bj bS.o Y);have jz:=aa (bj cz.o Y);replace U:=(bh l5.o).1;replace X:=(bh l5.o).2;have ax:=aa (z.o.drew.trans (s.mono z.o.size));clear s Y)
   |(go_at_call 57;refine(cG.o w1 ax.o).mono ?_;rintro r w2 ⟨u,rfl,hu,P⟩;obtain⟨kB,kC,rfl,uz,sL,hX⟩:=bp hu;obtain⟨tZ,rfl⟩:=hX c ar;clear hX;unfold maxLen at sL;obtain⟨u0,u1⟩:=er.cells hu.ids rfl c ar;rw[Io.o]at u0 u1;have nX:=aa (bj l5.o P);have o4:=aa (bj dM.o P);have ny:=aa (bj jz.o P);have z0:=(bh ny.o).1;have z1:=(bh ny.o).2;have BA:=cS ny.o;replace U:=(bh nX.o).1;replace X:=(bh nX.o).2;have bf:=aa (ax.o.trans (P.mono ax.o.size));have HGU:=aa (aoT hu tZ rfl).1;clear hu P))
  all_goals(
   generalize Q:(w2.setCell (H (b.heap.size+1+1)) (A o.1)).setCell (K (b.heap.size+1+1) 1) (A o.2)=B;have oh:=aa (show B.heap[b.heap.size+1+1]?=some (.cells #[A o.1,A o.2] 36 (0,0)) by rw[<-Q];exact Ys ny.o);have oN:=aa (show B.heap[b.heap.size+1]?=some (.cells #[A 0,A 0] 36 (0,0)) by rw[<-Q,dI (by omega),dI (by omega)];exact o4.o);have oC:=aa (show B.heap[b.heap.size]?=some (.cells #[A m.1,A m.2] 36 (0,0)) by rw[<-Q,dI (by omega),dI (by omega)];exact nX.o);have bK:=aa (show J b B by rw[<-Q];exact(bf.o.setCell (show b.heap.size<=b.heap.size+1+1 by omega) _).setCell (show b.heap.size<=b.heap.size+1+1 by omega) _);clear Q;replace U:=(bh oC.o).1;replace X:=(bh oC.o).2;replace z0:=(bh oh.o).1;replace z1:=(bh oh.o).2;go_wp2_with fail
   refine(rO.o _ bK.o).mono ?_;rintro r w4 ⟨rfl,C,fV,E,I,x⟩;have s:=(x.other _ (aM oN.o) (S.o _ (by omega))).trans oN.o;obtain⟨fz,eJ⟩:=bh s;have kT:=cS s;have Ft:=aM s;have ht:=aa E;have L:=aa x;have e5:=aa I;have rI:=aM oN.o;clear E x s U X z0 z1 BA I;go_wp2;refine bodyPost_ret (v:=.agg #[A (gt+1),A a]) (by simp[results,results61,go_sem,fz,eJ]) rfl ?_;have M:¬C (b.heap.size+1):=fun hF=>by
    rcases L.o.sub _ hF with h|h
    ·exact S.o _ (by omega) h
    ·omega
   have N:=Yw.o (b.heap.size+1) (by omega);exact⟨rfl,_,_,C,j,fV,(ht.o.set _ M N).set _ M N,e5.o,((L.o.before bK.o).va (by omega) _).va (by omega) _,fun _ y=>y,fun _ y=>.inl y⟩)
end
end Go.Proofs.YtnkpogjiiohapaaGreatDoor
