/- Our own text. -/
import Derived.Test.YtnkpogjiiohapaaGreatDoorA03
set_option linter.unusedSimpArgs false
set_option linter.unusedVariables false
set_option maxRecDepth 1000000
set_option maxHeartbeats 3200000
namespace Go.Proofs.YtnkpogjiiohapaaGreatDoor
open Go.RowKit Tryz
variable {a b l u:Nat}{c s:World}{d j k:Value}{f:Nat->Nat->Nat}{h:Nat->Nat->Value}{i:Nat->Value}{m:List bT}{n:List bA}{q:Nat->Bool}{r:List ep}
structure bY where
 p:bT
 ea:Value
variable {e:Nat->List bY}
def nf (o:bY):List Value:=[A o.p.id.1,A o.p.id.2,A o.p.aM,.bool o.p.aS,A o.p.eT.1,A o.p.eT.2,.string o.p.key,A o.p.hx.1,A o.p.hx.2,A o.p.ik.1,A o.p.ik.2,A o.p.kW,A o.p.obj.1,A o.p.obj.2,o.ea]
def lk (w:World) (v:Value) (l:List bY):Prop:=w.ownsRow 0 233 15 v l.length (l.flatMap nf)/\∀o∈l,fu w o.ea o.p.old
theorem lk.ak{w v l}{w':World}(h:lk w v l)(a:J w w'):lk w' v l:=⟨dI h.1 a,λo b=>(h.2 o b).ak a⟩
theorem lk.cell{w l}{g:Nat}(h:lk w (aa g a b) l)(c:a=l.length)(i:Nat)(d:i<l.length)(j:Nat)(e:j<15):w.cell? (K g (i*15+j))=(nf l[i])[j]?:=by subst c;exact jl (f:=nf) (λ_=>rfl) h.1 rfl i d j e
def qN (B:Nat) (w:World) (v:Value) (n:Nat) (a:Nat->Bool):Prop:=w.ownsRow B 4 1 v n ((List.range n).map λi=>Value.bool (a i))
theorem qN.cell{w}{g:Nat}(h:qN l w (aa g b u) b q)(c:a<b):w.cell? (K g a)=some (.bool (q a)):=by rw[Iy h a (by omega)];simp[c]
theorem qN.Cn{g:Nat}(h:qN b c (aa g a l) a q)(i:Nat):c.frozen? (K g i)=false:=SD h i
theorem qN.store {g:Nat} (h:qN b c (aa g a l) a q) (i:Nat):
  qN b (c.setCell (K g i) (.bool true)) (aa g a l) a (λj=>if j=i then true else q j):=by
 have :=(YM h i (.bool true)).1;unfold qN;have e:((List.range a).map λi=>Value.bool (q i)).set i (.bool true)=(List.range a).map λj=>Value.bool (if j=i then true else q j):=by
  apply xN;intro j;rw[YI];by_cases d:i=j
  .subst d;by_cases f:i<a
   .simp[f]
   simp_all
  by_cases f:j<a
  .simp[d,f,eE d]
  simp_all
 simp_all
def dD:List bA:=[⟨(0,0),false,[]⟩]
theorem ahs(b:((c.alloc (.cells #[A 0,A 0,.bool false,.slice none 0 0] 272)).alloc (.cells #[aa c.heap.size 1 1] 277)).grownBy s none):
  gG c.heap.size 0 s (c.heap.size+1) (aa c.heap.size 1 1) [⟨(0,0),false,.slice none 0 0,[]⟩]:=by
 refine⟨?_,by omega,⟨⟨by rfl,.inr ⟨c.heap.size,1,#[A 0,A 0,.bool false,.slice none 0 0],rfl,bW _,?_,by simp,by simp[maxLen],rfl,by rfl⟩⟩,?_,?_⟩,by simp,?_⟩
 .rw[b.block (c.heap.size+1) (by simp) (by simp)];have :c.heap.size+1=(c.alloc (.cells #[A 0,A 0,.bool false,.slice none 0 0] 272)).heap.size:=by simp
  rw[this];exact D5 _ _
 .rw[b.block c.heap.size (by simp;omega) (by simp),heap_alloc_old _ _ (by simp)];exact D5 _ _
 .intro o d;simp at d;subst d;exact⟨hg _ _ _ _,λa e=>by simp at e⟩
 .simp
 simp
theorem aht (h:c.ownsRow b 4 1 d a (madeCells (Value.bool false).cells (a*1)).toList):qN b c d a (λ_=>false):=by
 unfold qN;have e:(madeCells (Value.bool false).cells (a*1)).toList=(List.range a).map λ_=>Value.bool false:=by show(madeCells #[Value.bool false] (a*1)).toList=_;rw[SH,xO];apply xN;intro j;by_cases f:j<a<;>simp[f]
 simp_all
theorem qN.ak{n w v}{w':World}(h:qN a w v n q)(b:J w w'):qN a w' v n q:=dI h b
theorem gG.store(h:gG b l c a d r){g o:Nat}{f:Array Value}{e:TypeId}(E:c.heap[g]?=some (.cells f e))(t:e≠277)(v:e≠272)(w:e≠269)(x:e≠243)(u:Value):
  gG b l (c.setCell (K g o) u) a d r:=by
 have y:∀i,i≠g->(c.setCell (K g o) u).heap[i]?=c.heap[i]?:=λi j=>mn _ _ _ _ j
 have m:∀(i:Nat) (k:Array Value) (n:TypeId),c.heap[i]?=some (.cells k n)->n≠e->(c.setCell (K g o) u).heap[i]?=c.heap[i]?:=by intro i k n j F;exact y i (λI=>by simp_all)
 refine⟨by rw[m a _ _ h.ao (eE t)];exact h.ao,h.hB,⟨⟨h.al.1.1,?_⟩,λq s=>O6 (h.al.2.1 q s) (λi j=> ?_) (λi k p=>m i k _ p (eE x)),h.al.2.2⟩,h.hn,h.aj⟩
 .rcases h.al.1.2 with L|⟨i,z,B,C,D,j,rest⟩
  .simp_all
  exact .inr ⟨i,z,B,C,D,by rw[m i _ _ j (eE v)];exact j,rest⟩
 obtain⟨k,p⟩:=b0 (h.al.2.1 q s).1 j;exact m i k _ p (eE w)
theorem ZW (x y:PId) (w:World):O 158 #[.agg #[A x.1,A x.2],.agg #[A y.1,A y.2]] w λe a=>e=ad (.bool (qM x y))/\J w a:=
 agp x.1 x.2 y.1 y.2 w
def ahu (w:World) (l:List bY) (S:List bT) (d gt m:Nat) (wr:World):Prop:=
 ∃c a b,gG w.heap.size m wr d c a/\a.map ep.p=(S.take m).foldl cC dD/\qN w.heap.size wr (aa gt l.length l.length) l.length b/\
  (∀i (e:i<(l.map bY.p).length),b i=decide ((l.map bY.p)[i].id∈(S.take m).map bT.id))/\J w wr
def ahv (w:World) (l:List bY) (a:Nat->Bool) (k:Nat) (r:Int) (wr b:World):Prop:=rC ((l.map bY.p).map bT.id) a k r/\J wr b
theorem ahw (v:Value) (l:List bY) (S:List bT) (bS:S.Perm (l.map bY.p)) (ahx:Co S) (hl:l.length<10000) (w:World) (h:lk w v l):
  O 175 #[v] w λe Q=>
   ∃d F B,e=ad (Z d)/\gG w.heap.size l.length Q d F B/\B.map ep.p=S.foldl cC dD/\J w Q:=by
 obtain⟨a,cap,rfl,kt,dM,ku⟩:=bz h.1;have dX:=ag ku;have q:=ag h;have I:=ag bS;have Pe:=ag ahx;obtain⟨i0,R,hz0,hz1,hz2⟩:=qH (P:=prog) (e:=4) (z:=.bool false) (size:=1) (bytes:=1) (by rfl);go_enter func175,ntmps175;go_wp2_with (at_make;go_must (refine wpList_make_full _ rfl (.tmp 14) (.tmp 14) 299 rfl (w.heap.size+2) 4 i0 (.bool false) 1 underlying299 R hz0 hz1 _ _ _ _ l.length rfl rfl (by rfl) (by rfl) (by rw[hz2];omega) ?a8 ?cP ?_;(case a8=>unfold maxLen;omega);(case cP=>simp);intro w1 U W))
 have aA:=((aV w _).alloc (by simp) _).grown W (by simp;omega) (λk hk=>by cases hk);have Lm:=ag (ahs W);rw[show((w.alloc (.cells #[A 0,A 0,.bool false,.slice none 0 0] 272)).alloc (.cells #[aa w.heap.size 1 1] 277)).heap.size=w.heap.size+1+1 by simp]at U;have ahy:Hq (qN w.heap.size w1 (aa (w.heap.size+1+1) l.length l.length) l.length (λ_=>false)):=ii (base':=w.heap.size) (aht U) (by omega);clear W U R hz0 hz1 hz2 i0;have aJ:=ag aA;clear aA;generalize w.heap.size+1=d at *;generalize d+1=gt at *;go_loopw [5] (λX wr=>∃m:Nat,m<=l.length/\X=A m/\ahu w l S d gt m wr) (λX _=>l.length-(intOf X).toNat)
 case atStart=>exact⟨0,b6 _,rfl,_,_,λ_=>false,Lm.o,rfl,ahy.o,λi Y=>by simp,aJ.o⟩
 case round=>
  obtain⟨m,hm,rfl,hinv⟩:=hrel;obtain⟨ws,rfl⟩:∃ws,ws=wr:=⟨_,rfl⟩;obtain⟨F,B,dW,vb,Cp,oU,TF,bl⟩:=hinv;have tZ:=ag vb;have Pf:=Cp;have sq:=ag TF;have HFL:=ag oU;clear oU;have t:=ag bl;clear bl;by_cases L:m<l.length
  .obtain⟨g,rfl⟩:=dX.o m L;go_wp2;go_loopw [6,7] (λb i iJ=>∃k:Nat,∃r:Int,k<=l.length/\i=A k/\b=A r/\ahv w l dW k r ws iJ) (λ_ i _=>l.length-(intOf i).toNat)
   case atStart=>exact⟨0,-1,b6 _,rfl,rfl,.inl ⟨rfl,λj C=>absurd C (xK _)⟩,ca _ _⟩
   case round=>
    obtain⟨k,r,hk,rfl,rfl,Ei⟩:=hrel;obtain⟨wC,s⟩:=Ei;have u:=ag wC;clear wC;have n:=HFL.o.ak s;by_cases x:k<l.length
    .have bw:=qN.cell n x;have M:=(lk.cell (q.o.ak (bp t.o s)) rfl k x 0 (by omega));have br:=(lk.cell (q.o.ak (bp t.o s)) rfl k x 1 (by omega));simp only[nf,Aw,YJ,r9]at M br;have dG:g<wr.heap.size:=e7 wr _ M;have y:=ag s;clear s;have HFQ:=ag n;clear n;cases D:dW k
     .rw[D]at bw;rcases u.o.shape with rfl|⟨j,C,rfl⟩
      .go_wp2;go_roundw
       case rel=>exact⟨k+1,k,by omega,by go_num,rfl,u.o.first (by simpa using x) D,y.o⟩
       case measure=>simp[intOf];omega
      have iV:j<l.length:=by simpa using C
      have gX:=(lk.cell (q.o.ak (bp t.o y.o)) rfl j iV 0 (by omega));have q1:=(lk.cell (q.o.ak (bp t.o y.o)) rfl j iV 1 (by omega));simp only[nf,Aw,YJ,r9]at gX q1;have Ej:¬(j:Int)<0:=by omega
      have cr:=ag (ZW l[k].p.id l[j].p.id);go_wp2;go_region_with (go_at_call 158;refine(cr.o _).mono ?_;rintro e Q ⟨rfl,gC⟩;have ng:=gC)
      all_goals cases ah:qM l[k].p.id l[j].p.id
      all_goals go_wp2
      all_goals go_roundw
      all_goals first |(simp[intOf];omega)|exact⟨k+1,j,by omega,by go_num,rfl,u.o.OV (by simpa using x) C (by simpa using ah),bp y.o ((gb wr).trans ng)⟩|exact⟨k+1,k,by omega,by go_num,rfl,u.o.better (by simpa using x) C D (by simpa using ah),bp y.o ((gb wr).trans ng)⟩
     rw[D]at bw;go_wp2;go_roundw
     case rel=>exact⟨k+1,r,by omega,by go_num,rfl,u.o.taken D,y.o⟩
     case measure=>simp[intOf];omega
    have ua:k=l.length:=by omega
    subst ua;obtain⟨i,Y,rfl,E⟩:=ahq I.o Pe.o (by simpa using L) sq.o (by simpa using u.o);have c:i<l.length:=by simpa using Y
    have TG:=bp t.o s;have f:=q.o.ak TG;have bw:=qN.cell n c;have ZX:=qN.Cn n i;have dG:g<w.heap.size:=by have :=lk.cell q.o rfl i c 0 (by omega);simp only[nf,Aw]at this;exact e7 w _ this
    have oT:=(cX n gt rfl).1;have bI:g≠gt:=by omega
    have M:=lk.cell f rfl i c 0 (by omega);have br:=lk.cell f rfl i c 1 (by omega);have b4:=lk.cell f rfl i c 2 (by omega);have lT:=lk.cell f rfl i c 3 (by omega);have Cq:=lk.cell f rfl i c 4 (by omega);have avG:=lk.cell f rfl i c 5 (by omega);have avH:=lk.cell f rfl i c 6 (by omega);have avI:=lk.cell f rfl i c 7 (by omega);have avJ:=lk.cell f rfl i c 8 (by omega);have avK:=lk.cell f rfl i c 9 (by omega);have o10:=lk.cell f rfl i c 10 (by omega);have o11:=lk.cell f rfl i c 11 (by omega);have o12:=lk.cell f rfl i c 12 (by omega);have o13:=lk.cell f rfl i c 13 (by omega);have o14:=lk.cell f rfl i c 14 (by omega);simp only[nf,Aw,YJ,r9]at M br b4 lT Cq avG avH avI avJ avK o10 o11 o12 o13 o14;have R:(0:Int)<=(i:Int):=by omega
    have ZY:=ag E;clear E;have HDW:=ag (((tZ.o.ak s).store (b0 n (g:=gt) rfl).choose_spec (by decide) (by decide) (by decide) (by decide) (.bool true) (o:=i)));have HFW:=ag (qN.store n i);have Gv:=ag (TG.setCell (p:=(K gt i)) oT (.bool true));have Gw:=ag ((q.o.2 l[i] (dB _)).ak Gv.o);clear n f TG;go_wp2_with (go_at_call 192;go_must (refine(ahn w.heap.size m d F B (by omega) l[i].ea l[i].p _ ?aE ?ah).mono ?_;(case aE=>exact HDW.o);(case ah=>exact Gw.o);rintro e w2 ⟨rfl,vd2,os2,Gt,js,tY⟩;have N:=ag (aN Gt (aN js tY));clear Gt js tY))
    go_roundw
    case rel=>
     have IW:m<S.length:=by rw[I.o.length_eq];simpa using L
     refine⟨m+1,by omega,by go_num,vd2,os2,_,N.o.1,?_,N.o.2.2.row HFW.o (by decide) (by decide) (by decide),ahr I.o Pe.o (by simpa using L) sq.o Y ZY.o,Gv.o.trans N.o.2.2.dn⟩;have E:=ZY.o;rw[pn]at E;rw[N.o.2.1,Pf,E,lx IW,Ax];rfl
    case measure=>simp[intOf];omega
  go_wp2;go_ret
  have e:m=l.length:=by omega
  subst e;refine⟨d,F,B,rfl,tZ.o,?_,t.o⟩;have :=Pf;rwa [kp (by rw[I.o.length_eq];simp)]at this
structure fS (w:World) (r N:Nat) (ba aW bc:Value) (bi:Nat->Value) (cops:Nat->List bY) (cp:Nat->Nat->Value) (ai:Nat->Nat->Nat):Prop where
 aP:w.heap[r]?=some (.cells #[A N,ba,aW,bc] 222)
 hN:N<=4
 jt:w.ownsRow 0 255 1 ba N ((List.range N).map bi)
 fa:∀i,i<N->lk w (bi i) (cops i)
 ho:w.ownsRow 0 225 4 aW N ((List.range N).flatMap λc=>[cp c 0,cp c 1,cp c 2,cp c 3])
 hH:∀c,c<N->w.ownsRow 0 3 1 (cp c 0) N ((List.range N).map λi=>A (ai c i))
 eb:∀c i,c<N->i<N->ai c i<=(cops i).length
 cw:∀i,i<N->(cops i).length<=60
theorem fS.ak{w r N b d e f g j ai}{w':World}(h:fS w r N b d e f g j ai)(a:J w w'):fS w' r N b d e f g j ai:=
 ⟨by rw[a.block r (e8.1 h.aP).1];exact h.aP,h.hN,dI h.jt a,λi k=>(h.fa i k).ak a,dI h.ho a,λc l=>dI (h.hH c l) a,h.eb,h.cw⟩
theorem fS.bw{w}(c:fS w a b d j k i e h f):w.cell? (H a)=some (A b):=by simp[World.cell?,c.aP]
theorem fS.bm{w}(c:fS w a b d j k i e h f):w.cell? (K a 1)=some d:=by simp[World.cell?,c.aP]
theorem fS.bq{w}(c:fS w a b j d k i e h f):w.cell? (K a 2)=some d:=by simp[World.cell?,c.aP]
theorem fS.row{w u q v}(g:fS w l b d j u q e h v)(r:0<b):∃m n o p,d=aa m b n/\j=aa o b p/\b<=n/\b<=p/\(∀i,i<b->w.cell? (K m i)=some (q i))/\(∀c,c<b->w.cell? (K o (c*4))=some (h c 0)):=by
 obtain⟨a,n,s,x,_,y⟩:=bz g.jt;obtain⟨E,p,t,z,_,B⟩:=bz g.ho;obtain⟨m,rfl⟩:=y 0 r;obtain⟨o,rfl⟩:=B 0 r;refine⟨m,n,o,p,s,t,x,z,λi C=> ?_,λc D=> ?_⟩
 .have :=g.jt;rw[s]at this;rw[this.cellAt i (by omega)];simp[C]
 have :=g.ho;rw[t]at this;have :=jl (f:=λc=>[h c 0,h c 1,h c 2,h c 3]) (k:=4) (λ_=>rfl) this (by simp) c (by simpa using D) 0 (by omega);rw[r9]at this;rw[this];simp
theorem fS.Gx{w}(g:fS w u b d j k i e h f)(o:l<b):∃m n,h l 0=aa m b n/\b<=n/\∀c,c<b->w.cell? (K m c)=some (A (f l c)):=by obtain⟨a,n,p,q,_,r⟩:=bz (g.hH l o);obtain⟨m,rfl⟩:=r 0 (by omega);refine⟨m,n,p,q,λc s=> ?_⟩;have :=g.hH l o;rw[p]at this;rw[this.cellAt c (by omega)];simp[s]
theorem vd (l:fS c a b d j k i e h f) (g:Int):
  O 151 #[Z a,A g] c λm n=>m=ad (.bool (decide (0<=g/\g<b)))/\n=c:=by
 have o:=l.bw;by_cases p:0<=g
 .go_enter func151,ntmps151;go_wp2;go_ret
  simp_all
 go_enter func151,ntmps151;go_wp2;go_ret
 exact⟨og (by simp[show ¬0<=g by omega]),rfl⟩
theorem Ek (l:fS c a b d j k i e h f) (g:Nat) (o:g<b) (n:Nat) (s:n<=10):
  O 144 #[Z a,A g,A n] c λm p=>m=ad (.bool (decide ((e g).length+n<=60)))/\p=c:=by
 have t:=l.bm;obtain⟨u,v,w,x,rfl,rfl,y,_,cells,_⟩:=l.row (by omega);obtain⟨z,B,q,_,_,_⟩:=bz (l.fa g o).1;have r:=cells g o;rw[q]at r;have C:=l.cw g o;have D:=l.hN;go_enter func144,ntmps144;go_wp2;go_ret
 exact⟨og (by rw[decide_eq_decide];omega),rfl⟩
theorem ahz {α:Type} (f:α->List Value) (size bytes:Nat) (t e:TypeId) (z:Value) (F:(prog.info? e).map (λi=>(i.zero,i.size,i.bytes))=some (some z,size,bytes))
  (p:prog.underlying t=some (.slice e)) (I:z.cells.size=size) (L:0<size) (M:∀x,(f x).length=size)
  {q:Array Oper} {o:Oper} {a:Act} {b:Act->World->Prop} {Q:Exit->Act->World->Prop} {E:Prop}
  (N:o.guard=none) (s x:Operand) (r:o.op=.call {callee:=.builtin .append,args:= #[s,x],argTypes:= #[t,t]}) (B:Nat) (v:Value) (l g:List α) (w:a.eval s=v)
  (m:c.ownsRow B e size v l.length (l.flatMap f)) (y:Value) (C:a.eval x=y) (R:tW c f y g) (S:∀u∈g.flatMap f,u.oneCell'=true)
  (U:(l.length+g.length)*bytes<=140737488355328) (W:l.length+g.length<=maxLen) (X:B<=c.heap.size)
  (h:∀k j,j.ownsRow B e size k (l.length+g.length) ((l++g).flatMap f)->c.grownBy j v.ownBlock->b (a.put o.dst k) j):
  if Region.wanted o (yielded q a.tmps)=true then Oper.wp prog o a c b Q else E:=by
 have Y:Region.wanted o (yielded q a.tmps)=true:=by simp[Region.wanted,N]
 rw[bn Y];obtain⟨i,D,b1,cw,eg⟩:=qH F;rcases R with⟨rfl,rfl⟩|⟨oR,d,rfl,hc⟩
 .have n:=aty (P:=prog) c B t o.type e i size p D v l.length _ m;unfold Oper.wp execOp;simp only[r,resolve,invoke,builtin,mL,xL,oK,KW,ip,uV,w,C,n];exact h v c (by simpa using m) (World.grownBy.refl c _)
 obtain⟨k,j,n,h2,ax,_⟩:=SE (P:=prog) c B t o.type e i z size bytes p D b1 cw eg I L v l.length (l.flatMap f) m oR g.length d (g.flatMap f) (rB f size M g) hc S W U X;unfold Oper.wp execOp;simp only[r,resolve,invoke,builtin,mL,xL,oK,KW,ip,uV,w,C,n];exact h k j (by simpa using h2) ax
def AM (B:Nat) (w:World) (v:Value) (l:List bY):Prop:=w.ownsRow B 233 15 v l.length (l.flatMap nf)
theorem AM.dn{w v l}(h:AM a w v l)(b:Below a c w)(d:a<=w.heap.size)(e:w.grownBy s v.ownBlock):Below a c s:=
 b.grown e d λk f=>(cX h k f).1
theorem AM.drew{B w v l}(h:AM B w v l):AM B w.drew v l:=YP h
theorem ahA{l:List bY}(h:∀o∈l,fu c o.ea o.p.old):∀u∈l.flatMap nf,u.oneCell'=true:=by intro u d;obtain⟨o,e,d⟩:=lg.1 d;obtain⟨a,b,f,_⟩:=bz (h o e);simp[nf]at d;rcases d with rfl|rfl|rfl|rfl|rfl|rfl|rfl|rfl|rfl|rfl|rfl|rfl|rfl|rfl|rfl<;>first |rfl|(rw[f];rfl)
theorem ahB{i:Array Oper}{o:Oper}{a:Act}{b:Act->World->Prop}{Q:Exit->Act->World->Prop}{E:Prop}(j:o.guard=none)(s x:Operand)(k:o.op=.call {callee:=.builtin .append,args:= #[s,x],argTypes:= #[255,255]})(B:Nat)(v:Value)(l d:List bY)(m:a.eval s=v)(n:AM B c v l)(g:Value)(p:a.eval x=g)(q:tW c nf g d)(r:∀u∈d.flatMap nf,u.oneCell'=true)(y:l.length+d.length<100000)(t:B<=c.heap.size)(h:∀f e,AM B e f (l++d)->c.grownBy e v.ownBlock->b (a.put o.dst f) e):
  if Region.wanted o (yielded i a.tmps)=true then Oper.wp prog o a c b Q else E:=
 ahz nf 15 144 255 233 (.agg #[A 0,A 0,A 0,.bool false,A 0,A 0,.string ⟨#[]⟩,A 0,A 0,A 0,A 0,A 0,A 0,A 0,.slice none 0 0]) (by kernel_rfl) underlying255 rfl (by omega) (λ_=>rfl)
  j s x k B v l d m n g p q r (by omega) (by unfold maxLen;omega) t (λf e z w=>h f e (by unfold AM;simp_all) w)
def kx (cops:Nat->List bY) (ai:Nat->Nat) (k:Nat):List bY:=(List.range k).flatMap λi=>(cops i).take (ai i)
theorem Ph(a:Nat->List bY)(b:Nat->Nat)(k:Nat):kx a b (k+1)=kx a b k++(a k).take (b k):=by unfold kx;rw[mM,oL];simp
theorem Pj(a:Nat->List bY)(b:Nat->Nat):∀k,(∀i,i<k->(a i).length<=60)->(kx a b k).length<=60*k
 |0,_=>by simp[kx]
 |k+1,h=>by rw[Ph,dh,gU];have :=Pj a b k (λi c=>h i (by omega));have :=h k (by omega);omega
theorem ZZ {S:Nat->Nat->Value} (h:fS c b a d j k i e S f) (l:Nat) (x:l<a):
  O 173 #[Z b,A l] c λn D=>
   ∃v,n=ad v/\lk D v (kx e (f l) a)/\J c D:=by
 obtain⟨gO,rD,U,fy,rfl,rfl,Gy,Cr,E,F⟩:=h.row (by omega);obtain⟨W,X,I,IY,L⟩:=h.Gx x;have Y:=ag h.bw;have wA:=ag h.bm;have Gz:=ag h.bq;have HCC:=ag (show c.cell? (K U (l*4))=some (aa W a X) by rw[F l x,I]);have hN:=h.hN;have r:=ag h;clear h;have HCO:=ag E;clear E;have ub:=ag L;clear L;clear F I;go_enter func173,ntmps173;go_wp2;go_loopw [5,6] (λu m wr=>∃g:Nat,g<=a/\m=A g/\AM c.heap.size wr u (kx e (f l) g)/\J c wr) (λ_ m _=>a-(intOf m).toNat)
 case atStart=>exact⟨0,b6 _,rfl,hg _ _ _ _,ca _ _⟩
 case round=>
  obtain⟨g,hk,rfl,y,p⟩:=hrel;have bw:=ak p Y.o;have bm:=ak p wA.o;have bq:=ak p Gz.o;have Ln:=ak p HCC.o;by_cases s:g<a
  .have t:=r.o.fa g s;obtain⟨M,w,aO,mP,zd,Cs⟩:=bz t.1;unfold maxLen at zd;have z:=HCO.o g s;rw[aO]at z t;replace z:=ak p z;have mT:=ak p (ub.o g s);have eb:=r.o.eb l g x s;have cw:=r.o.cw g s;have jQ:=Pj e (f l) g (λm N=>r.o.cw m (by omega));have B:=ag (t.ak p);have P:=ag y;clear y t;have C:=ag p;clear p;clear Cs;have hcI:((f l g:Nat):Int)<=(w:Int):=by omega
   have qa:(0:Int)<=((f l g:Nat):Int):=by omega
   have Lo:=ag (show f l g=0->M=none->w=0 from λ_ n=>by have :=B.o.1;rw[n]at this;exact Zt this);go_wp2;go_region_law (refine ahB rfl (.tmp 15) (.tmp 34) rfl c.heap.size _ (kx e (f l) g) ((e g).take (f l g)) (by simp[Act.eval,Act.put];rfl) ?h1 (.slice M (f l g) w) (by simp[Act.eval,Act.put]) ?h2 ?ax ?a8 ?cP ?_;(case h1=>exact P.o);(case h2=>exact Ld B.o.1 (λ_=>rfl) rfl (f l g) eb w Lo.o);(case ax=>exact ahA (λo q=>B.o.2 o (mo q)));(case a8=>rw[gU];omega);(case cP=>exact C.o.size);intro v' w2 Q R;have zj:=ag Q;clear Q;have ev:=ag R;clear R)
   all_goals(try go_wp2)
   all_goals go_roundw
   all_goals first |(simp[intOf];omega)|exact⟨g+1,by omega,by go_num,by rw[Ph];exact zj.o,AM.dn P.o.drew C.o.drew C.o.size ev.o⟩
  go_wp2;go_ret
  have n:g=a:=by omega
  subst n;refine⟨_,rfl,⟨ii y (b6 _),λo q=> ?_⟩,p⟩;unfold kx at q;obtain⟨m,N,q⟩:=lg.1 q;exact((r.o.fa m (by simpa using N)).2 o (mo q)).ak p
theorem jm.base{w l}{B':Nat}(h:jm a w d l)(b:B'<=a):jm B' w d l:=⟨ii h.1 b,h.2⟩
theorem gG.base{B t w d v b}{B':Nat}(h:gG B t w d v b)(a:B'<=B):gG B' t w d v b:=
 ⟨h.ao,cd a h.hB,⟨ii h.al.1 a,λo c=>(h.al.2.1 o c).base a,h.al.2.2⟩,h.hn,h.aj⟩
structure Shown (w:World) (r N:Nat) (ba aW bc:Value) (bi:Nat->Value) (cops:Nat->List bY) (cp:Nat->Nat->Value) (ai:Nat->Nat->Nat) (c:Nat) (S:List bT):Prop where
 bN:fS w r N ba aW bc bi cops cp ai
 hc:c<N
 perm:S.Perm ((kx cops (ai c) N).map bY.p)
 sort:Co S
theorem Shown.ak{w r N a b d e f g ai c S}{w':World}(h:Shown w r N a b d e f g ai c S)(i:J w w'):Shown w' r N a b d e f g ai c S:=
 ⟨h.bN.ak i,h.hc,h.perm,h.sort⟩
theorem Shown.len{w r N b c}(a:Shown w r N d j k b e h f c m):(kx e (f c) N).length<=240:=by have :=Pj e (f c) N (λi g=>a.bN.cw i g);have :=a.bN.hN;omega
theorem Z0 (g:Shown c b l d j k i e h f a m):O 152 #[Z b,A a] c λo t=>
   ∃n r q,o=ad (Z n)/\gG c.heap.size 240 t n r q/\q.map ep.p=m.foldl cC dD/\J c t:=by
 have C:=g.len;go_enter func152,ntmps152;go_wp2_with fail
 refine(ZZ g.bN a g.hc).mono ?_;rintro o w ⟨v,rfl,x,u⟩;go_wp2_with fail
 refine(ahw v _ m g.perm g.sort (by omega) w x).mono ?_;rintro o D ⟨n,r,q,rfl,y,z,B⟩;have s:=aN y (aN z B);go_wp2;go_ret
 exact⟨n,r,q,rfl,(s.1.mono (by omega)).base u.size,s.2.1,bp u s.2.2⟩
theorem Lp (m:fS c a b d j k i e h f) (g o p:Int) (q:Bool) (r:¬(0<=g/\g<b)):
  O 147 #[Z a,A g,.agg #[A o,A p],.bool q] c λl s=>l=ad (.tuple #[.pointer none,A 2])/\J c s:=by
 go_enter func147,ntmps147;go_wp2_with fail
 refine(vd (m.ak (aV c _)) g).mono ?_;rintro l t ⟨n,rfl⟩;rw[p2 r]at n;subst n;go_wp2;go_ret2
 exact⟨rfl,aV _ _⟩
structure zn (w0 w:World) (D:List bA) (k:Nat) (d:Nat) (go cap:Nat) (os:List ep):Prop where
 doc:gG w0.heap.size 240 w d (aa go os.length cap) os
 eq:os.map ep.p=D
 lt:k<os.length
 dn:J w0 w
theorem ahC (r:Shown c l u d j k i e h f b m) (t w:Int) (D:Bool):
  O 147 #[Z l,A b,.agg #[A t,A w],.bool D] c λn N=>
   (di (kK (t,w)) (m.foldl cC dD)<0/\n=ad (.tuple #[.pointer none,A 3])/\J c N)\/
   (∃g:Nat,di (kK (t,w)) (m.foldl cC dD)=(g:Int)/\∃P:g<(m.foldl cC dD).length,
    (((m.foldl cC dD)[g].aS≠D/\n=ad (.tuple #[.pointer none,A 4])/\J c N)\/
     ((m.foldl cC dD)[g].aS=D/\∃q y E s,n=ad (.tuple #[.pointer (some (K y (g*4))),A 0])/\zn c N (m.foldl cC dD) g q y E s))):=by
 have Y:decide (0<=(b:Int)/\(b:Int)<u)=true:=nJ (by have :=r.hc;omega);generalize oo:m.foldl cC dD=z;go_enter func147,ntmps147;go_wp2_with fail
 refine(vd (r.bN.ak (aV c _)) b).mono ?_;rintro n S ⟨U,rfl⟩;rw[Y]at U;subst U;go_wp2_with fail
 refine(Z0 (r.ak (aV c _))).mono ?_;rintro n S ⟨q,oj,s,rfl,vb,Q,R⟩;rw[oo]at Q;have c4:=ak (a:=(V c 0)) (v:=A t) R (by simp);have bK:=ak (a:=(V c 1)) (v:=A w) R (by simp);have x:=ag (vb.base (B':=c.heap.size) (by simp));have aJ:=(aV c _).trans (R.mono (by simp));have B:=Q;go_wp2_with fail
 refine(Gf c.heap.size q oj s t w S x.o.cell x.o.al).mono ?_;rintro n w2 ⟨rfl,W⟩;have X:di (mO (t,w)) s=di (kK (t,w)) z:=by rw[<-B,Pb]
 replace x:=ag (x.o.ak W);have C:=bp aJ W;have aL:=Ci (mO (t,w)) s;have gB:=Gj (mO (t,w)) s;by_cases hn:di (mO (t,w)) s<0
 .have fF:=ag hn;have av:di (mO (t,w)) s= -1:=by omega
  go_wp2;go_ret2
  exact .inl ⟨by rw[<-X];omega,rfl,C⟩
 obtain⟨g,P⟩:=Ce (a:=di (mO (t,w)) s) (by omega);have F:g<s.length:=by omega
 obtain⟨y,E,cO,rfl,IS,dO,Ck,dM,jq,sn,b3,Q⟩:=x.o.row F;have bw:=x.o.cell;have bq:w2.cell? (K y (g*4+2))=some (.bool s[g].aS):=by simp[World.cell?,dO,b3]
 have I:g<z.length:=by rw[<-B];simpa using F
 have L:z[g].aS=s[g].aS:=by
  have :z[g]=s[g].p:=by simp only[<-B,pn]
  rw[this];rfl
 rw[P];have M:=show di (kK (t,w)) z=(g:Int) by rw[<-X];exact P
 generalize s[g].aS=ol at *;cases ol<;>cases D
 all_goals go_wp2
 all_goals go_ret2
 .exact .inr ⟨g,M,I,.inr ⟨L,q,y,E,s,rfl,x.o,B,F,C⟩⟩
 .exact .inr ⟨g,M,I,.inl ⟨by rw[L];simp,rfl,C⟩⟩
 .exact .inr ⟨g,M,I,.inl ⟨by rw[L];simp,rfl,C⟩⟩
 exact .inr ⟨g,M,I,.inr ⟨L,q,y,E,s,rfl,x.o,B,F,C⟩⟩
def qP (D:List bA) (x:PId) (a:Bool):Except Int Nat:=
 if di (kK x) D<0 then .error 3
 else match D[(di (kK x) D).toNat]? with
  |some o=>if o.aS=a then .ok (di (kK x) D).toNat else .error 4
  |none=>.error 3
theorem ahD{x:PId}{a:Bool}(h:di (kK x) n<0):qP n x a=.error 3:=by unfold qP;simp_all
theorem Z2{x:PId}{b:Bool}(h:di (kK x) n=(a:Int))(c:a<n.length):qP n x b=if n[a].aS=b then .ok a else .error 4:=by unfold qP;rw[a7 (by omega),h];simp[c]
def ju (o:bA) (key:ByteArray) (x:PId):List dr:=match o.ss.find? (gA key x) with |some s=>s.aj|none=>[]
theorem Lq (q:Shown c a l d j k i e h f b m) (t u:Int) (v:Bool):
  O 147 #[Z a,A b,.agg #[A t,A u],.bool v] c λo y=>
   (∃n,qP (m.foldl cC dD) (t,u) v=.error n/\(n=3\/n=4)/\o=ad (.tuple #[.pointer none,A n])/\J c y)\/
   (∃g p w z B,qP (m.foldl cC dD) (t,u) v=.ok g/\o=ad (.tuple #[.pointer (some (K w (g*4))),A 0])/\zn c y (m.foldl cC dD) g p w z B):=by
 refine(ahC q t u v).mono λo y E=> ?_
 rcases E with⟨x,r,s⟩|⟨g,x,D,⟨r,s,C⟩|⟨r,p,w,z,B,s,C⟩⟩
 .exact .inl ⟨3,ahD x,.inl rfl,r,s⟩
 .exact .inl ⟨4,by rw[Z2 x D,a7 r],.inr rfl,s,C⟩
 exact .inr ⟨g,p,w,z,B,by rw[Z2 x D,bn r],s,C⟩
theorem zn.ix{b w D k d c e a}(h:zn b w D k d c e a):jm b.heap.size w (a[k]'h.lt).ix (a[k]'h.lt).ss:=h.doc.al.2.1 _ (dB _)
theorem zn.cell{w}(h:zn c w n a l b u r):w.cell? (K b (a*4+3))=some (r[a]'h.lt).ix:=(Az.cells h.doc.al rfl a h.lt).2.2.2
theorem zn.ss{b w D k d c e a}(h:zn b w D k d c e a):(D[k]?.map bA.ss)=some ((a[k]'h.lt).ss.map bX.p):=by obtain⟨g,rfl,f,i⟩:=h;simp[f,ep.p]
theorem zn.len{w k cap}(h:zn c w n k a b cap r):(r[k]'h.lt).ss.length<=240/\∀s∈(r[k]'h.lt).ss,s.aj.length<=240:=h.doc.aj _ (dB _)
theorem Z3{l:List bX}{key:ByteArray}{x:PId}:(l.map bX.p).find? (gA key x)=if di (iG key x) l<0 then none else(l[(di (iG key x) l).toNat]?).map bX.p:=by
 have t:=Ci (iG key x) l;split
 .rename_i b
  rw[D6];intro s g;obtain⟨c,h,rfl⟩:=dF.1 g;unfold di at b;split at b
  .omega
  rename_i e
  rw[Oz]at e;have :=e c h;show ¬iG key x c=true
  simp_all
 rename_i b
 obtain⟨k,d⟩:=Ce (a:=di (iG key x) l) (by omega);rw[d];have f:k<l.length:=by omega
 have m:l.findIdx? (iG key x)=some k:=by
  unfold di at d;split at d
  .rename_i i n;rw[n];congr 1;omega
  omega
 obtain⟨_,o,q⟩:=F4.1 m;simp only[Int.ofNat_eq_natCast,xP,uX f,qI];rw[OE];refine⟨o,k,by simpa using f,by simp,λj r=> ?_⟩;have :=q j r;rw[pn];show(!iG key x l[j])=true;simpa using this
def nh (D:List bA) (x:PId) (key:ByteArray):Except Int (List dr):=
 match qP D x false with
 |.error n=>.error n
 |.ok k=>if lP key then .ok (match D[k]? with |some o=>ju o key (0,0)|none=>[]) else .error 5
theorem Po {N:Nat} (t:Shown c b N d j k i e h f u m) (B C:Int) (key:ByteArray) (X:key.size<=maxLen):
  O 143 #[Z b,A u,.agg #[A B,A C],.string key] c λg Y=>
   J c Y/\((∃n,(n=3\/n=4\/n=5)/\nh (m.foldl cC dD) (B,C) key=.error n/\g=ad (.tuple #[.slice none 0 0,A n]))\/
   (∃v F,nh (m.foldl cC dD) (B,C) key=.ok F/\F.length<=240/\g=ad (.tuple #[v,A 0])/\mp Y v F)):=by
 have aT:=ag t;clear t;generalize oo:m.foldl cC dD=nQ;have wD:=ag oo;clear oo;have HKF:=ag (λW=>agv key W X);clear X;go_enter func143,ntmps143;go_wp2_with fail
 refine(Lq (aT.o.ak (aV c _)) B C false).mono ?_;rw[wD.o];have I:=ag (aV c (af B C));rintro g w1 (⟨n,D,E,rfl,aA⟩|⟨r,w,go,cap,os,D,rfl,e3⟩)
 .have a1:=ag (aN D aA);clear D aA;have L:=ag E;have oW:¬n=0:=by omega
  clear E;go_wp2;go_ret2
  exact⟨bp I.o a1.o.2,.inl ⟨n,by have :=L.o;omega,by unfold nh;rw[a1.o.1],rfl⟩⟩
 have H1:=ag D;clear D;have z:=ag e3;clear e3;go_wp2_with fail
 refine(HKF.o _).mono ?_;rintro g w2 ⟨rfl,e4⟩;subst e4;cases oX:lP key
 .go_wp2;go_ret2
  exact⟨bp I.o z.o.dn,.inl ⟨5,by omega,by unfold nh;rw[H1.o];simp[oX],rfl⟩⟩
 have M:=ag z.o.ix;have wE:=ag z.o.cell;have eb:=z.o.len;have sr:=ag eb;clear eb;have mu:=ag z.o.ss;have tg:=z.o.lt;generalize os[r]=y at *;obtain⟨cq,cf,P,mP,zd,Cs⟩:=bz M.o.1;unfold maxLen at zd;have Q:=wE.o;rw[P]at Q;have nR:=ag (show nh nQ (B,C) key=.ok (match(y.ss.map bX.p).find? (gA key (0,0)) with |some s=>s.aj|none=>[]) by
  unfold nh;rw[H1.o];simp only[oX,hQ];have :=mu.o;cases ao:nQ[r]? with
  |none=>rw[ao]at this;cases this
  |some o=>rw[ao]at this;simp at this;simp only[ju,this])
 go_wp2_with fail
 refine(Gh _ go (r*4) _ y.ss key 0 0 _ wE.o M.o).mono ?_;rintro g w2 ⟨rfl,bo⟩;replace Q:=ak bo Q;have bF:=bo;have aL:=Ci (iG key (0,0)) y.ss;have gB:=Gj (iG key (0,0)) y.ss;have Lr:=ag (Z3 (l:=y.ss) (key:=key) (x:=(0,0)));have eO:=ag (bp I.o (bp z.o.dn bF));by_cases E:di (iG key (0,0)) y.ss<0
 .have av:di (iG key (0,0)) y.ss= -1:=by omega
  have L:=ag E;go_wp2;go_ret2
  refine⟨eO.o,.inr ⟨_,[],?_,by simp,rfl,Th _⟩⟩;rw[nR.o,Lr.o,bn L.o]
 obtain⟨q,hi⟩:=Ce (a:=di (iG key (0,0)) y.ss) (by omega);have R:q<y.ss.length:=by omega
 obtain⟨gs,rfl⟩:=Cs q R;have S:=ag (M.o.ak bF);rw[P]at S;obtain⟨eh,dN,dm,hK⟩:=jm.cells S.o rfl q R;have U:=S.o.2 y.ss[q] (dB _);obtain⟨ni,xY,dP,_,_,_⟩:=bz U;rw[dP]at hK U;have wF:=ag U;have En:=ag E;have du:=ag hi;have e2:=ag P;go_wp2;go_ret2
 refine⟨eO.o,.inr ⟨_,y.ss[q].aj,?_,sr.o.2 _ (dB _),rfl,wF.o⟩⟩;rw[nR.o,Lr.o,a7 (by omega),du.o];simp[R,bX.p]
