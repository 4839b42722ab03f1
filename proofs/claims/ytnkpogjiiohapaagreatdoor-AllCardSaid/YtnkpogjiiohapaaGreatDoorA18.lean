/- Our own text. -/
import Derived.Test.YtnkpogjiiohapaaGreatDoorA17
set_option linter.unusedSimpArgs false
set_option linter.unusedVariables false
set_option maxRecDepth 1000000
set_option maxHeartbeats 4000000
namespace Go.Proofs.YtnkpogjiiohapaaGreatDoor
open Go.RowKit Tryz
section
attribute [local go_sem ↓] Go.wp_at_zero Go.wp_at_succ
variable {a c d l q:Nat}{b:World}{e:List (PId×ay)}{f:List ay}{h n:Nat->Int}{i k:Nat->Prop}{j:gm}{m:List Int}
def BB (x:Int):List Value:=[A x]
def sL (B:Nat) (w:World) (v:Value) (l:List Int):Prop:=w.ownsRow B 3 1 v l.length (l.flatMap BB)
theorem al2(l:List Int):∀u∈l.flatMap BB,u.oneCell'=true:=by intro u b;obtain⟨n,_,a⟩:=lg.1 b;simp[BB]at a;subst a;rfl
theorem VH (l:List Int):l.flatMap BB=l.map λx=>A x:=by exact List.map_eq_flatMap.symm
theorem sL.qu{v}(h:sL a b v m)(f:0<m.length)(o:m.length<=1000):∃g d,v=aa g m.length d/\m.length<=d/\d<=maxLen/\a<=g/\g<b.heap.size/\∀i (j:i<m.length),b.cell? (K g i)=some (A m[i]):=by obtain⟨c,d,rfl,k,l,n⟩:=bz h;obtain⟨g,rfl⟩:=n 0 f;have e:=cX h g rfl;refine⟨g,d,rfl,k,l,e.1,e.2,λi j=> ?_⟩;have :=Iy h i (by omega);rw[this,VH];simp
theorem VI (h:sL 0 b (aa c m.length a) m) (s:m.length<1000000):
  O 50 #[aa c m.length a] b λe g=>∃u,e=ad u/\sL b.heap.size g u m/\J b g:=by
 have i:=aV b (.cells #[] 3);have j:=show tW (b.alloc (.cells #[] 3)) BB (aa c m.length a) m by have :=Ld (dI h i) (λ_=>rfl) rfl m.length (bW _) a (λ_ e=>by cases e);rwa [wv]at this
 go_enter func50,ntmps50;have t:=λb d n f l o=>Lib.run_eql_slice_nil b _ _ d n f l o underlying24
 go_wp2_with (at_builtin;go_must (refine Lc BB 1 8 24 3 (A 0) (by rfl) underlying24 rfl (by omega) (λ_=>rfl) rfl (.tmp 5) (.tmp 6) rfl b.heap.size (aa b.heap.size 0 0) [] m rfl (World.ownsRow_made b #[] 0 (bW _) (b6 _) (by simp)) (aa c m.length a) rfl j (al2 m) (by simp;omega) (by unfold maxLen;simp;omega) (by simp) ?_;intro p v q r))
 go_ret
 refine⟨p,rfl,by unfold sL;simpa using q,i.grown r (by simp) (λk e=> ?_)⟩;simp[Value.ownBlock]at e;omega
def l3 (N:Nat) (a:Nat->Int):List Int:=(List.range N).map a
theorem rW(N:Nat)(a:Nat->Int):(l3 N a).length=N:=by simp[l3]
theorem dU.ints{gt}(g:dU b c i k a d l gt h f e j):sL 0 b (aa j.fP (l3 a h).length a) (l3 a h):=by
 have n:=g.hN;have m:(l3 a h).flatMap BB=(nA a h).toList:=by rw[VH];simp[l3,nA]
 refine⟨by rw[VH];simp,.inr ⟨j.fP,a,_,by rfl,b6 _,g.cF,by rw[rW];simp,by unfold maxLen;omega,by simp[nA],?_⟩⟩;rw[m,rW,kp (by simp[nA])]
theorem al3 {gt:Int} (g:dU b a i k c d l gt h f e j):
  O 54 #[Z a] b λm n=>∃u,m=ad u/\sL b.heap.size n u (l3 c h)/\J b n:=by
 obtain⟨t,v,w,x,eN,y⟩:=g.cells;have p:=ag (VI g.ints (by rw[rW];have :=g.hN;omega));rw[rW]at p;go_enter func54,ntmps54;go_wp2_with fail
 refine p.o.mono ?_;rintro m z ⟨u,rfl,r,s⟩;have q:=aN r s;go_wp2;go_ret
 exact⟨u,rfl,q.1,q.2⟩
def pL (l:List Int) (a:Nat->Int) (k:Nat):List Int:=l.mapIdx λi x=>if i<k then max x (a i) else x
theorem Dg(l:List Int)(a:Nat->Int)(k:Nat):(pL l a k).length=l.length:=by simp[pL]
theorem ME(l:List Int)(a:Nat->Int)(k i:Nat)(b:i<l.length):(pL l a k)[i]'(by rw[Dg];exact b)=if i<k then max l[i] (a i) else l[i]:=by simp[pL]
theorem al4(l:List Int)(a:Nat->Int):pL l a 0=l:=by
 apply Ea
 .exact Dg _ _ _
 intro i c b;rw[ME _ _ _ _ b];simp
theorem al5 (l:List Int) (a:Nat->Int) (k:Nat) (g:k<l.length):(((pL l a k).map λx=>A x).toArray).setIfInBounds k (A (max l[k] (a k)))=((pL l a (k+1)).map λx=>A x).toArray:=by
 apply afN;intro i;rw[F5];by_cases b:i<l.length
 .have c:i<(pL l a k).length:=by rw[Dg];exact b
  have d:i<(pL l a (k+1)).length:=by rw[Dg];exact b
  by_cases f:k=i
  .subst f;simp[c,d,ME _ _ _ _ b]
  rw[a7 f];have e:(i<k+1)=(i<k):=by apply propext;omega
  simp[c,d,ME _ _ _ _ b,e]
 have c:¬i<(pL l a k).length:=by rw[Dg];exact b
 have d:¬i<(pL l a (k+1)).length:=by rw[Dg];exact b
 have f:k≠i:=by omega
 simp_all
theorem dU.VJ {v:World} {gt:Int} (g:dU b a i k c d l gt h f e j) {p:Int×Nat} (w:p∈j.fX) (Q:m.length=c) (s:aR (λn=>n=p.2) b v) (R:v.heap[p.2]?=some (.cells (m.map λx=>A x).toArray 3 (0,0))):
  dU v a i k c d l gt h f e {j with dq:=λq=>if q=p.2 then m else j.dq q}:=by
 obtain⟨⟨_,z⟩,S,U,W⟩:=g.zK p w;have r:=λn hF X=>s.other n (g.lt n hF) X
 have B:=λn C=>s.other n (g.cI n C) λo=>g.e0 n C (o▸U)
 obtain⟨t,u,D⟩:=g.E0;obtain⟨Y,kh,E⟩:=g.E2;have F:∀(q:Nat) (t:Array MapEntry) (u:Nat),b.heap[q]?=some (.map t u)->q≠p.2:=λq t u I o=>by rw[o,z]at I;cases I
 have Ug:a≠p.2:=λo=>by have L:=g.bb;rw[o]at L;exact absurd (cQ L z) (by decide)
 refine⟨by rw[r _ g.cc Ug];exact g.bb,by rw[r _ g.gK (eE S)];exact g.cF,g.kB.hA s.size (λn hF=>r n (g.ti n hF) (λo=>W (o▸hF))) B,g.iY,g.j1,⟨t,u,D.hU (r _ g.q8 (F _ _ _ D.bb))⟩,λp w=>(g.E1 p w).fW B (λ_ x=>x),⟨Y,kh,E.hU (r _ g.yt (F _ _ _ E.bb))⟩,λM vk=> ?_,g.hc,g.hN,g.cc,g.gK,g.q8,g.yt,g.ti,g.qt,g.E3,g.E4,g.Hm,g.Hn,λn hF=>c0 (g.lt n hF) s.size,g.e0⟩;obtain⟨⟨ax,a8⟩,N,y,P⟩:=g.zK M vk;by_cases o:M.2=p.2
 .refine⟨?_,N,y,P⟩;simp only[o,hQ];exact⟨Q,R⟩
 refine⟨?_,N,y,P⟩;simp only[o,fM];exact⟨ax,by rw[r _ y o];exact a8⟩
theorem al6 {u:Nat} {gt:Int} (m:dU b d i k a q u gt n f e j) (p:Int) (L:bV p j.fX=some c) {gk:Nat} (C:q9 b gk l a h) (M:k gk):
  O 274 #[Z d,A p,aa gk a l] b λs N=>(∃r,s=ad r)/\dU N d i k a q u gt n f e {j with dq:=λv=>if v=c then pL (j.dq c) h a else j.dq v}/\aR (λg=>g=c) b N/\i c:=by
 obtain⟨bw,bm,bq,ce,eN,j2⟩:=m.cells;have Bw:=m.hN;have Bq:=C.JP;have VG:=C.JQ;have P:=gZ L;obtain⟨⟨Q,jz⟩,fw,R,eF⟩:=m.zK _ P;obtain⟨es,aX,il⟩:=m.E2;have xl:(Instr.lookup 107 (.map (some j.hX)) (A p) false).run prog b=.ok (aa c a a) b:=by have :=Cj abU il underlying107 (show(zeroValue 24).run prog b=.ok (.slice none 0 0) b by kernel_rfl) p false;rw[L]at this;exact this
 have z:=ag (aN m (aN C (aN M (aN Q (aN jz P)))));obtain⟨w,S⟩:∃w,w=j.dq c:=⟨_,rfl⟩;rw[<-S]at z Q;go_enter func274,ntmps274;go_wp2_with fail
 go_loopw [17] (λt wr=>∃g,g<=a/\t=A (g:Nat)/\wr.heap[c]?=some (.cells ((pL w h g).map λx=>A x).toArray 3 (0,0))/\aR (λg=>g=c) b wr) (λt _=>a-(intOf t).toNat)
 case atStart=>exact⟨0,b6 _,rfl,by rw[al4];exact z.o.2.2.2.2.1,aR.cL (ca _ _)⟩
 case round=>
  obtain⟨g,ej,rfl,B,D⟩:=hrel;by_cases aL:g<a
  .have BA:=D.cell (show gk≠c from λs=>z.o.1.e0 _ M (s▸R)) (z.o.2.1.cells g aL);have jY:(0:Int)<=(g:Int):=by simp
   have dK:(g:Int)<(a:Int):=by omega
   have dx:(g:Int)<(l:Int):=by omega
   have U:g<w.length:=by omega
   have gc:wr.cell? (K c g)=some (A w[g]):=by
    have E:g<(pL w h g).length:=by rw[Dg];omega
    simp[World.cell?,B,E,ME _ _ _ _ U]
   have j8:=cV B g;have F:=ag (al5 w h g U);obtain⟨y,W⟩:∃y,y=w[g]:=⟨_,rfl⟩;rw[<-W]at gc F;clear W;have I:=aN B D;have auA:=aU I.1;obtain⟨X,Y⟩:∃X,X=max y (h g):=⟨_,rfl⟩;rw[<-Y]at F;go_wp2_with fail
   rw[<-Y];refine⟨⟨g+1,by omega,by go_num,?_,I.2.trans (aR.it _ rfl)⟩,by simp[intOf];omega⟩;rw[<-F.o];exact setRow I.1
  have iC:g=a:=by omega
  go_wp2_with fail
  go_end0
  obtain⟨E,h2,rfl⟩:=aN B (aN D iC);refine⟨⟨_,rfl⟩,?_,h2,R⟩;rw[<-S];exact z.o.1.VJ z.o.2.2.2.2.2 (by rw[Dg];exact z.o.2.2.2.1) h2 E
def acf:Value->Nat
 |.slice _ n _=>n
 |_=>0
def JR (B:Nat) (w:World) (v:Value) (l:List PId):Prop:=w.ownsRow B 371 2 v l.length (l.flatMap nc)
def uA (c:Nat) (a:Int) (n:Nat):List PId:=(List.range n).map λ(j:Nat)=>((c:Int),a+1+(j:Int))
def l4 (a b:Nat->Int) (c:Nat):List PId:=(List.range c).flatMap λ(i:Nat)=>uA i (a i) (b i-a i).toNat
theorem acg(c:Nat)(f:Int)(n:Nat):uA c f (n+1)=uA c f n++[((c:Int),f+1+(n:Int))]:=by unfold uA;rw[mM,ga];rfl
theorem ach(c:Nat)(f:Int)(n:Nat):(uA c f n).length=n:=by simp[uA]
theorem QM(a b:Nat->Int)(c:Nat):l4 a b (c+1)=l4 a b c++uA c (a c) (b c-a c).toNat:=by unfold l4;rw[mM,oL];simp
theorem VK{a b:Nat->Int}{N:Nat}(h:∀i,i<N->0<=a i/\b i<=60):∀c,c<=N->(l4 a b c).length<=c*60
 |0,_=>by simp[l4]
 |c+1,d=>by have e:=VK h c (by omega);have f:=h c (by omega);rw[QM,dh,ach,uW];omega
theorem al7 {gt:Int} (t:dU b d i k a l q gt n f e j) {gk:Nat} (x:q9 b gk c a h) (Q:∀r,r<a->0<=h r/\n r<=60) (R:∀r,r<a->h r<=60):
  O 278 #[Z d,aa gk a c] b λu S=>∃v,u=ad v/\JR b.heap.size S v (l4 h n a)/\J b S:=by
 have Bw:=t.hN;obtain⟨bw,bm,bq,ce,eN,j2⟩:=t.cells;clear bw bm ce eN j2;have Bq:=x.JP;have VG:=x.JQ;have y:=ag (aN t (aN x (aN Q R)));clear t x Q R;go_enter func278,ntmps278;go_wp2_with fail
 go_loopw [5,14] (λv r wr=>∃g,g<=a/\r=A (g:Nat)/\JR b.heap.size wr v (l4 h n g)/\J b wr) (λ_ r _=>a-(intOf r).toNat)
 case atStart=>exact⟨0,b6 _,rfl,(show JR b.heap.size b (.slice none 0 0) [] from hg _ _ _ _),ca _ _⟩
 case round=>
  obtain⟨g,ej,rfl,E,z⟩:=hrel;by_cases F:g<a
  .have uu:=(y.o.1.ak z).Ho F;have BA:=(y.o.2.1.ak z).cells g F;obtain⟨oW,VL⟩:=y.o.2.2.1 g F;have hn6:=y.o.2.2.2 g F;have jY:(0:Int)<=(g:Int):=by simp
   have dK:(g:Int)<(a:Int):=by omega
   have dx:(g:Int)<(c:Int):=by omega
   have Vp:IntKind.i64.wrap (h g+1)=h g+1:=mN _ (by omega);have M:=ag (aN E z);clear E z;obtain⟨U,zM⟩:∃U,U=wr:=⟨_,rfl⟩;subst zM;have W:=ag (VK (λr X=>⟨(y.o.2.2.1 r X).1,(y.o.2.2.1 r X).2⟩) g ej);have N:=ag (QM h n g);have hz:(l4 h n g).length<=240:=by have :=W.o;omega
   obtain⟨B,Y⟩:∃B,B=l4 h n g:=⟨_,rfl⟩;rw[<-Y]at hz M N;clear Y W;obtain⟨m,I⟩:∃m,m=(n g-h g).toNat:=⟨_,rfl⟩;rw[<-I]at N;go_wp2_with fail
   go_loopw [5,8] (λv s kO=>∃p,p<=m/\s=A (h g+1+(p:Nat))/\JR b.heap.size kO v (B++uA g (h g) p)/\J b kO) (λv _ _=>1000-acf v)
   case atStart=>exact⟨0,b6 _,by simp,by simpa[uA]using M.o.1,M.o.2⟩
   case round=>
    obtain⟨p,VM,rfl,L,Fb⟩:=hrel;obtain⟨w,D⟩:∃w,w=B++uA g (h g) p:=⟨_,rfl⟩;have zN:=ag (show w.length=B.length+p by rw[D,dh,ach]);have ll:=ag (show B++uA g (h g) (p+1)=w++[((g:Int),h g+1+(p:Int))] by rw[acg,D,kr]);have HFN:=ag (λ(u:p=m)=>show w=l4 h n (g+1) by rw[N.o,D,u]);rw[<-D]at L;clear D;have CX:m<=60:=by omega
    have pb:w.length<=400:=by have :=zN.o;omega
    obtain⟨dQ,dL,rfl,AR,zJ,ys⟩:=bz L;clear ys;unfold maxLen at zJ;have C:=ag (aN L Fb);clear L Fb;by_cases aB:p<m
    .have eb:h g+1+(p:Int)<=n g:=by omega
     have bR:=ag I;clear I;have P:=ag (aV wr (.cells #[A g,A (h g+1+(p:Int))] 371));have My:=ag (OR (x1:=(g:Int)) (x2:=h g+1+(p:Int)) (bD (bZ wr (.cells #[A g,A (h g+1+(p:Int))] 371))).1 (bD (bZ wr (.cells #[A g,A (h g+1+(p:Int))] 371))).2);have e4:IntKind.i64.wrap (h g+1+(p:Int)+1)=h g+1+(p:Int)+1:=mN _ (by omega);go_wp2_with (first
      |(at_builtin;refine CV nc 2 16 378 371 (.agg #[A 0,A 0]) (by rfl) underlying378 rfl (by omega) (λ_=>rfl) rfl (.tmp 29) (.tmp 33) rfl b.heap.size (.slice dQ w.length dL) w rfl (dI C.o.1 P.o) wr.heap.size 1 ((g:Int),h g+1+(p:Int)) rfl My.o OQ (by omega) (by unfold maxLen;omega) (by have :=P.o.size;have :=C.o.2.size;omega) ?_;intro v' w10 Hv E9 QI;have Mz:=ag Hv;have JM:=ag E9;clear Hv E9 QI)
      |fail)
     go_roundw
     case rel=>
      refine⟨p+1,by omega,by congr 1;omega,?_,?_⟩
      .rw[ll.o];show w10.ownsRow b.heap.size 371 2 v' (w++[((g:Int),h g+1+(p:Int))]).length ((w++[((g:Int),h g+1+(p:Int))]).flatMap nc);rw[dh]
       assumption
      have bo:=bp C.o.2 P.o;exact bo.grown JM.o bo.size (λg x=>(cX C.o.1 g x).1)
     case measure=>obtain⟨lU,cB,rfl,_,_,_⟩:=bz Mz.o;simp only[acf];omega
    have oT:¬h g+1+(p:Int)<=n g:=by omega
    have BD:=ag (show p=m by omega);clear I aB;go_wp2_with fail
    refine⟨⟨g+1,by omega,by go_num,?_,C.o.2⟩,by simp[intOf];omega⟩;have :=C.o.1;rw[<-HFN.o BD.o];omega
  have iC:g=a:=by omega
  have a1:=ag (aN E (aN z iC));clear E z iC;go_wp2_with fail
  go_ret
  obtain⟨h1,h2,rfl⟩:=a1.o;exact⟨_,rfl,h1,h2⟩
def Hx (w:World) (g a:Nat) (l:List PId):Prop:=∀k (b:k<l.length),w.cell? (K g (a+k*2))=some (A l[k].1)/\w.cell? (K g (a+k*2+1))=some (A l[k].2)
theorem Hx.ak{w g off l}{w':World}(h:Hx w g off l)(a:J w w'):Hx w' g off l:=λk b=>⟨Go.Proofs.YtnkpogjiiohapaaGreatDoor.ak a (h k b).1,Go.Proofs.YtnkpogjiiohapaaGreatDoor.ak a (h k b).2⟩
theorem al8 {l:List PId} (h:Hx b d a l) (x:PId) (L:l.length<=1000) (M:a<=100000) (N:l.length<=c) (P:c<=100000):
  O 284 #[.slice (some (K d a)) l.length c,dC x] b λe C=>∃i:Int,e=ad (A i)/\decide (0<=i)=decide (x∈l)/\J b C:=by
 unfold dC;have D:=ag h;clear h;have E:=aV b (.cells #[A x.1,A x.2] 371);obtain⟨g,j⟩:=bD (bZ b (.cells #[A x.1,A x.2] 371));have u:=aN g j;go_enter func284,ntmps284;go_wp2_with fail
 go_loopw [8] (λi wr=>∃k,k<=l.length/\i=A (k:Nat)/\x∉l.take k/\J b wr/\wr.cell? (V b 0)=some (A x.1)/\wr.cell? (V b 1)=some (A x.2)) (λi _=>l.length-(intOf i).toNat)
 case atStart=>exact⟨0,b6 _,rfl,by simp,E,u.1,u.2⟩
 case round=>
  obtain⟨k,Q,rfl,p,m,g,j⟩:=hrel;by_cases q:k<l.length
  .obtain⟨v,F⟩:=D.o.ak m k q;have R:(0:Int)<=(k:Int):=by simp
   have S:(k:Int)<(l.length:Int):=by omega
   have w:=ag (lx q);obtain⟨y,r⟩:∃y,y=l[k]:=⟨_,rfl⟩;rw[<-r]at v F w;have I:=ag (show y∈l from r▸dB q);have s:=ag p;clear p r;have f:=ag m;clear m;by_cases n:x=y
   .subst n;go_wp2_with fail
    go_region
    go_wp2_with fail
    go_ret
    exact⟨k,rfl,by rw[nJ I.o,nJ (kG _)],f.o.drew⟩
   have z:=ag (show x∉l.take (k+1) by
    rw[w.o,dZ];rintro(h|h)
    .exact s.o h
    exact n (fR.1 h))
   by_cases t:x.1=y.1
   .have B:¬x.2=y.2:=λB=>n (S5 t B)
    rw[<-t]at v;clear t n;go_wp2_with fail
    go_region
    go_wp2_with fail
    exact⟨⟨k+1,by omega,by go_num,z.o,f.o.drew,g,j⟩,by simp[intOf];omega⟩
   go_wp2_with fail
   go_region
   go_wp2_with fail
   exact⟨⟨k+1,by omega,by go_num,z.o,f.o.drew,g,j⟩,by simp[intOf];omega⟩
  have s:=ag p;have f:=ag m;go_wp2_with fail
  go_ret
  refine⟨-1,rfl,?_,f.o⟩;have :=s.o;rw[kp (by omega)]at this;rw[p2 this]
  decide
theorem al9 {l:List PId} (h:Hx b d a l) (f g:Int) (m:l.length<=1000) (n:a<=100000) (o:l.length<=c) (p:c<=100000):
  O 279 #[.slice (some (K d a)) l.length c,.agg #[A f,A g]] b λe q=>e=ad (.bool (decide ((f,g)∈l)))/\J b q:=by
 have j:=aV b (.cells #[A f,A g] 371);go_enter func279,ntmps279;go_wp2_with fail
 refine(al8 (h.ak j) (f,g) m n o p).mono ?_;rintro e t ⟨i,rfl,r,s⟩;have k:=aN r s;go_wp2;go_ret
 rw[<-k.1];exact⟨rfl,bp j k.2⟩
end
section
attribute [local go_sem] Oper.semAt_some
def vK (S:Nat->Prop) (W a:World):Prop:=∀k,S k->a.heap[k]?=W.heap[k]?
theorem vK.trans{S a B C}(h:vK S a B)(k:vK S B C):vK S a C:=λi b=>(k i b).trans (h i b)
theorem vK.cell{S a B}(h:vK S a B){g i:Nat}(c:S g){v:Value}(b:a.cell? (K g i)=some v):B.cell? (K g i)=some v:=by unfold World.cell? at b⊢;rw[h g c];exact b
def chunks (a:Nat):Nat:=(a+7)/8
def Dh (a m:Nat):Nat:=min 8 (a-m)
def JS (g a m:Nat):Value:=.slice (some (K g (m*2))) (Dh a m) (Dh a m)
abbrev Di (a:Nat):={k:Nat//k<chunks a}
theorem ama (F:Fence) (n:Nat) (gi:F.fn 283) (qf:F.round=none) (hn:1<=n) (l y z g c B:Nat) (hlen:c<=1000) (hcap:c<=B) (MF:B<=maxLen) (a:Option Addr) (aE:0<c->a=some (H g)) (S:Nat->Prop) (bS:S y) (M:S z) (b N:List (Di c)->World->Prop)
  (GP:∀d x W,b d W->d.length<chunks c->YieldAt F (n-1) prog l #[JS g c (8*x.1)] W λe q=>
   (e=ad (.bool true)/\b (d++[x]) q/\vK S W q)\/(e=ad (.bool false)/\N (d++[x]) q))
  (W:World) (yf:AbidesFrom W.heap.size b) (VP:W.cell? (H y)=some (.slice a c B)) (VQ:W.cell? (H z)=some (A 8)) (h0:b [] W):
  CallsIn F n prog 283 #[.func (.yield l) #[] #[],Z y,Z z] W λe q=>(∃v,e=ad v)/\
   ((∃P:List (Di c),P.map (·.1)=List.range (chunks c)/\b P q)\/(∃d:List (Di c),(∃k,k<=chunks c/\d.map (·.1)=List.range k)/\N d q)):=by
 refine SL func283 rfl gi ?_ qf;simp only[ntmps283,K5,iq,sa,Nat.reduceAdd,Nat.reduceSub,SM,SN,SO,SP,sZ,p5]
 gi_wp2
 gi_loopw [4] (λi wr=>∃(m k:Nat) (d:List (Di c)),Hq (m=8*k)/\k<=chunks c/\i=A (m:Int)/\d.map (·.1)=List.range k/\b d wr/\vK S W wr)
  (λi _=>c+8-(intOf i).toNat)
 case atStart=>exact⟨0,0,[],ag rfl,b6 _,rfl,rfl,h0,λ_ _=>rfl⟩
 case round=>
  obtain⟨m,k,d,u,hk,rfl,j,C,w⟩:=hrel;have Q:=w.cell bS VP;have D:=w.cell M VQ;have hz:d.length=k:=by have :=kq List.length j;simpa using this
  by_cases s:k<chunks c
  .have R:b d wr.drew:=yf d wr _ none C ⟨rfl,rfl,rfl,bW _,λ_ _ _=>rfl⟩ (λr e=>by cases e);obtain⟨fn,tmps,assign,body,E,U⟩:=GP d ⟨k,s⟩ wr.drew R (by omega);have CX:m<c:=by have :=u.o;unfold chunks at s;omega
   obtain rfl:=aE (by omega);rw[<-u.o]at E;have I:=E;unfold JS at I;obtain⟨p,t⟩:∃p,p=Dh c m:=⟨_,rfl⟩;rw[<-t]at I;have auB:p<=8:=by rw[t];unfold Dh;omega
   have auC:m+p<=c:=by rw[t];unfold Dh;omega
   have qb:(0:Int)<=(m:Int):=kG _;have sD:(m:Int)<(c:Int):=by omega
   have auD:min (8:Int) ((c-m:Nat):Int)=(p:Int):=by rw[t];unfold Dh;omega
   have fK:((m:Int)+(p:Int)).toNat-m=p:=by omega
   clear E;have EU:=ag t;clear t
   gi_wp2
   gi_region
   all_goals gi_wp2
   all_goals refine U.mono ?_
   all_goals clear U R I
   all_goals
    rintro e ky (⟨rfl,X,L⟩|⟨rfl,Y⟩)
    .replace D:=L.cell M (show wr.drew.cell? _=_ from D);have f:=ag (aN X (aN L (aN w j)));clear X L w j Q
     gi_wp2
     go_roundw
     case rel=>exact⟨m+8,k+1,d++[⟨k,s⟩],ag (by have :=u.o;omega),s,by go_num,by rw[ga,f.o.2.2.2,mM];rfl,f.o.1,f.o.2.2.1.trans f.o.2.1⟩
     case measure=>simp[intOf];omega
    have f:=ag (aN Y j);clear Y j Q D
    gi_wp2
    refine ey (Iw rfl _ _ _) rfl ?_;exact⟨⟨_,rfl⟩,.inr ⟨_,⟨k+1,s,by rw[ga,f.o.2,mM];rfl⟩,f.o.1⟩⟩
  have gB:¬(m:Int)<(c:Int):=by have :=u.o;unfold chunks at s;omega
  have Js:k=chunks c:=by omega
  have f:=ag (aN j (aN C Js));clear j C Js
  gi_wp2
  go_end0
  obtain⟨h1,h2,ax⟩:=f.o;exact⟨⟨_,rfl⟩,.inl ⟨d,h1.trans (kq List.range ax),h2⟩⟩
theorem amb (F:Fence) (n:Nat) (d:F.fn 277) (f:F.round=none) (a:Option Addr) (b c:Nat) (w:World):
  CallsIn F n prog 277 #[.slice a b c,A 8] w λe g=>e=ad (.func (.func 283) #[] #[Z w.heap.size,Z (w.heap.size+1)])/\g=(w.alloc (.cells #[.slice a b c] 378)).alloc (.cells #[A 8] 3):=by
 refine SL func277 rfl d ?_ f
 gi_wp2
 go_ret
 simp
theorem amc (F:Fence) (n:Nat) (i:F.fn 283) (j:F.round=none) (m:1<=n) (d e g c f:Nat) (o:c<=1000) (p:c<=f) (q:f<=maxLen) (a:Option Addr) (r:0<c->a=some (H g)) (S:Nat->Prop) (s:S d) (t:S e) (w:World) (u:w.cell? (H d)=some (.slice a c f)) (v:w.cell? (H e)=some (A 8)):
  SeqStopsK F n prog 283 #[Z d,Z e] (λx:Di c=> #[JS g c (8*x.1)]) (vK S) (λy=>y.map (·.1)=List.range (chunks c)) (λz=>∃k,k<=chunks c/\z.map (·.1)=List.range k) (chunks c) w:=λl b B W h C _ D E=>
 ama F n i j m l d e g c f o p q a r S s t b B D W C (Go.Proofs.YtnkpogjiiohapaaGreatDoor.ak h u) (Go.Proofs.YtnkpogjiiohapaaGreatDoor.ak h v) E
end
