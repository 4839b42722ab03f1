/- Our own text. -/
import Derived.Shelf.SlicesE.Kit
import Derived.BigQuiet
import Derived.Test.YtnkpogjiiohapaaGreatDoorA21
import Derived.Test.YtnkpogjiiohapaaGreatDoorA20
import Derived.Test.YtnkpogjiiohapaaGreatDoorA08
set_option linter.unusedSimpArgs false
set_option linter.unusedVariables false
set_option maxRecDepth 1000000
set_option maxHeartbeats 4000000
namespace Go.Proofs.YtnkpogjiiohapaaGreatDoor
section
open Go.RowKit Tryz
attribute [local go_sem ↓] Go.wp_at_zero Go.wp_at_succ
variable {a c d k n:Nat}{b:World}{e:List ar}{f m:Nat->Int}{h j:Nat->Prop}{i:fS}{l:List Int}
def wZ (x:Int):List Value:=[A x]
def qF (B:Nat) (w:World) (v:Value) (l:List Int):Prop:=w.ownsRow B 3 1 v l.length (l.flatMap wZ)
theorem ahh(l:List Int):∀u∈l.flatMap wZ,u.oneCell'=true:=by
 intro u b;obtain⟨n,_,a⟩:=aqq.1 b;simp[wZ]at a;subst a;rfl
theorem Q2(l:List Int):l.flatMap wZ=l.map fun x=>A x:=by
 unfold wZ;exact List.map_eq_flatMap.symm
theorem qF.qG{v}(h:qF a b v l)(j:0<l.length)(o:l.length<=1000):∃g d,v=.slice (some (H g)) l.length d/\l.length<=d/\d<=maxLen/\a<=g/\g<b.heap.size/\∀i (e:i<l.length),b.cell? (K g i)=some (A l[i]):=by
 obtain⟨c,d,rfl,k,m,n⟩:=bm h;obtain⟨g,rfl⟩:=n 0 j;have f:=ap1 h g rfl;refine⟨g,d,rfl,k,m,f.1,f.2,fun i e=> ?_⟩;have :=arN h i (by omega);rw[this,Q2];simp[e]
theorem XY(h:qF 0 b (.slice (some (H c)) l.length a) l)(x:l.length<1000000):
  O 50 #[.slice (some (H c)) l.length a] b fun e m=>∃u,e=.returned u/\qF b.heap.size m u l/\J b m:=by
 have g:=(apY b.heap.size b).alloc (apX _) (.cells #[] 3);have r:=aa (show rF (b.alloc (.cells #[] 3)) wZ (.slice (some (H c)) l.length a) l by
  have :=Hc (c7 h g) (fun _=>rfl) rfl l.length (apX _) a (fun _ e=>by cases e);rwa [ari]at this)
 have s:=aa g;clear h g;go_enter func50,ntmps50;have y:∀(b:World) (d:Option Addr) (n f i j:Nat),(binOp .eql 24 (.slice d n f) (.slice none i j)).run prog b=.ok (.bool d.isNone) b:=fun b d n f i j=>Lib.run_eql_slice_nil b _ _ d n f i j underlying24
 go_wp2_with (at_builtin;go_must (refine Ha wZ 1 8 24 3 (A 0) (by kernel_rfl) underlying24 rfl (by omega) (fun _=>rfl) rfl (.tmp 5) (.tmp 6) rfl b.heap.size (.slice (some (V b 0)) 0 0) [] l rfl ?h1 (.slice (some (H c)) l.length a) rfl r.o (ahh l) ?al ?aL ?b1 ?_;(case h1=>exact World.ownsRow_made b #[] 0 (apX _) (apZ _) (by simp));(case al=>simp;omega);(case aL=>unfold maxLen;simp;omega);(case b1=>simp);intro t z p q;have v:=aa p;have w:=aa q;clear p q))
 go_ret
 refine⟨t,rfl,by unfold qF;simpa using v.o,s.o.grown w.o (by simp) (fun k e=> ?_)⟩;simp[Value.ownBlock]at e;omega
def km (N:Nat) (a:Nat->Int):List Int:=(List.range N).map a
theorem uD(N:Nat)(a:Nat->Int):(km N a).length=N:=by simp[km]
theorem dA.ints{gt early}(g:dA b c h j a d k gt f e early i):qF 0 b (.slice (some (H i.eR)) (km a f).length a) (km a f):=by
 have l:=g.heard;have n:=g.hN;have m:(km a f).flatMap wZ=(p1 a f).toList:=by
  rw[Q2];simp[km,p1]
 refine⟨by rw[Q2];simp,.inr ⟨i.eR,a,_,by rw[uD],apZ _,l,by rw[uD];exact apX _,by unfold maxLen;omega,by simp[p1],?_⟩⟩;rw[m,uD,aql (by simp[p1])]
theorem ahi{gt early}(g:dA b a h j c d k gt f e early i):
  O 54 #[Z a] b fun l m=>∃u,l=.returned u/\qF b.heap.size m u (km c f)/\J b m:=by
 obtain⟨s,t,x,v,ee,w⟩:=g.cells;have n:=aa (XY g.ints (by rw[uD];have :=g.hN;omega));rw[uD]at n;clear s t v ee w g;go_enter func54,ntmps54;go_wp2_with fail
 refine n.o.mono ?_;rintro l y ⟨u,rfl,p,q⟩;have r:=aa (And.intro p q);clear p q;go_wp2;go_ret
 exact⟨u,rfl,r.o.1,r.o.2⟩
def n1 (l:List Int) (a:Nat->Int) (k:Nat):List Int:=l.mapIdx fun i x=>if i<k then max x (a i) else x
theorem zS(l:List Int)(a:Nat->Int)(k:Nat):(n1 l a k).length=l.length:=by simp[n1]
theorem ID(l:List Int)(a:Nat->Int)(k i:Nat)(b:i<l.length):(n1 l a k)[i]'(by rw[zS];exact b)=if i<k then max l[i] (a i) else l[i]:=by simp[n1]
theorem ahj(l:List Int)(a:Nat->Int):n1 l a 0=l:=by
 apply arF
 ·exact zS _ _ _
 intro i c b;rw[ID _ _ _ _ b];simp
theorem ahk(l:List Int)(a:Nat->Int)(k:Nat)(g:k<l.length):(((n1 l a k).map fun x=>A x).toArray).setIfInBounds k (A (max l[k] (a k)))=((n1 l a (k+1)).map fun x=>A x).toArray:=by
 apply Array.ext_getElem?;intro i;rw[arJ];by_cases b:i<l.length
 ·have c:i<(n1 l a k).length:=by rw[zS];exact b
  have d:i<(n1 l a (k+1)).length:=by rw[zS];exact b
  by_cases f:k=i
  ·subst f;simp[c,d,ID _ _ _ _ b]
  rw[if_neg f];have e:(i<k+1)=(i<k):=by apply propext;omega
  simp[c,d,ID _ _ _ _ b,e]
 have c:¬i<(n1 l a k).length:=by rw[zS];exact b
 have d:¬i<(n1 l a (k+1)).length:=by rw[zS];exact b
 have f:k≠i:=by omega
 simp[f,c,d]
theorem dA.Q3{r gt early}(g:dA b a h j c d k gt f e early i){p:Int×Nat}(v:p∈i.kX)(P:l.length=c)(s:aO (fun m=>m=p.2) b r)(Q:r.heap[p.2]?=some (.cells (l.map fun x=>A x).toArray 3 (0,0))):
  dA r a h j c d k gt f e early {i with ea:=fun o=>if o=p.2 then l else i.ea o}:=by
 obtain⟨⟨_,y⟩,R,S,U⟩:=g.zO p v;have q:∀m,h m->m≠p.2->r.heap[m]?=b.heap[m]?:=fun m hF W=>s.other m (g.lt m hF) W
 have z:∀m,j m->r.heap[m]?=b.heap[m]?:=fun m B=>s.other m (g.cx m B) fun n=>g.eC m B (n▸S)
 obtain⟨t,u,C⟩:=g.emap;obtain⟨X,Y,D⟩:=g.DV;have E:∀(o:Nat) (t:Array MapEntry) (u:Nat),b.heap[o]?=some (.map t u)->o≠p.2:=fun o t u F n=>by rw[n,y]at F;cases F
 have O5:a≠p.2:=fun n=>by
  have I:=g.blk;rw[n]at I;exact absurd (bK I y) (by decide)
 refine⟨by rw[q _ g.b3 O5];exact g.blk,by rw[q _ g.fA (aqa R)];exact g.heard,g.jT.gw s.size (fun m hF=>q m (g.q3 m hF) (fun n=>U (n▸hF))) z,g.cnt,g.jB,⟨t,u,C.gJ (q _ g.pf (E _ _ _ C.blk))⟩,fun p v=>(g.BH p v).ft z (fun _ x=>x),⟨X,Y,D.gJ (q _ g.vF (E _ _ _ D.blk))⟩,fun L sO=> ?_,g.hc,g.hN,g.b3,g.fA,g.pf,g.vF,g.q3,g.pg,g.BI,g.BJ,g.DW,g.DX,fun m hF=>ap3 (g.lt m hF) s.size,g.eC⟩;obtain⟨⟨al,aL⟩,M,w,N⟩:=g.zO L sO;by_cases n:L.2=p.2
 ·refine⟨?_,M,w,N⟩;simp only[n,if_true];exact⟨P,Q⟩
 refine⟨?_,M,w,N⟩;simp only[n,if_false];exact⟨al,by rw[q _ w n];exact aL⟩
theorem ahl{t gt early gk}(l:dA b d h j a n t gt m e early i)(p:Int)(R:bC p i.kX=some c)(C:rl b gk k a f)(D:j gk):
  O 274 #[Z d,A p,.slice (some (H gk)) a k] b fun q S=>(∃r,q=.returned r)/\dA S d h j a n t gt m e early {i with ea:=fun u=>if u=c then n1 (i.ea c) f a else i.ea u}/\aO (fun g=>g=c) b S/\h c:=by
 obtain⟨bf,a6,bc,bZ,ee,jC⟩:=l.cells;clear bf a6 bc bZ ee;have BL:=l.hN;have BB:=C.IB;have XW:=C.IC;have E:=fL R;obtain⟨⟨F,I⟩,U,L,W⟩:=l.zO _ E;simp only at F I U L W;obtain⟨es,aT,X⟩:=l.DV;have tn:(Instr.lookup 107 (.map (some i.jm)) (A p) false).run prog b=.ok (.slice (some (H c)) a a) b:=by
  have :=yZ Xx X underlying107 (show(zeroValue 24).run prog b=.ok (.slice none 0 0) b by kernel_rfl) p false;rw[R]at this;exact this
 have w:=aa (And.intro l (And.intro C (And.intro D (And.intro F (And.intro I E)))));clear l C I E X U W;have Y:=aa L;clear L;have kf:=aa (show gk≠c from fun q=>w.o.1.eC _ D (q▸Y.o));clear D;obtain⟨v,tY⟩:∃v,v=i.ea c:=⟨_,rfl⟩;rw[<-tY]at w F;go_enter func274,ntmps274;go_wp2_with fail
 go_loopw [17] (fun s wr=>∃g,g<=a/\s=A (g:Nat)/\wr.heap[c]?=some (.cells ((n1 v f g).map fun x=>A x).toArray 3 (0,0))/\aO (fun g=>g=c) b wr) (fun s _=>a-(intOf s).toNat)
 case atStart=>exact⟨0,apZ _,rfl,by rw[ahj];exact w.o.2.2.2.2.1,aO.cJ (apY _ _)⟩
 case round=>
  obtain⟨g,dZ,rfl,z,B⟩:=hrel;by_cases aE:g<a
  ·have BQ:=B.cell kf.o (w.o.2.1.cells g aE);have jR:(0:Int)<=(g:Int):=aqc _;have df:(g:Int)<(a:Int):=by omega
   have c3:(g:Int)<(k:Int):=by omega
   have M:g<v.length:=by omega
   have gc:wr.cell? (K c g)=some (A v[g]):=by
    have N:g<(n1 v f g).length:=by rw[zS];exact M
    simp[World.cell?,z,N,ID _ _ _ _ M]
   have kK:=cG z g;have P:=aa (ahk v f g M);obtain⟨y,aA⟩:∃y,y=v[g]:=⟨_,rfl⟩;rw[<-aA]at gc P;clear aA;have Q:=aa (And.intro z B);clear z B;have aot:=aN Q.o.1;obtain⟨X0,X1⟩:∃X0,X0=max y (f g):=⟨_,rfl⟩;rw[<-X1]at P;go_wp2_with fail
   rw[<-X1];refine⟨⟨g+1,by omega,by go_num,?_,?_⟩,by simp[intOf];omega⟩
   ·rw[<-P.o];exact setRow Q.o.1
   exact Q.o.2.trans (aO.kU _ rfl)
  have ho:g=a:=by omega
  have aP:=aa (And.intro z (And.intro B ho));clear z B ho;go_wp2_with fail
  go_end0
  obtain⟨N,h2,rfl⟩:=aP.o;refine⟨⟨_,rfl⟩,?_,h2,Y.o⟩;rw[<-tY];exact w.o.1.Q3 w.o.2.2.2.2.2 (by rw[zS];exact w.o.2.2.2.1) h2 N
def X2:Value->Nat
 |.slice _ n _=>n
 |_=>0
def Gb (B:Nat) (w:World) (v:Value) (l:List PId):Prop:=w.ownsRow B 371 2 v l.length (l.flatMap lO)
def rm (c:Nat) (a:Int) (n:Nat):List PId:=(List.range n).map fun(j:Nat)=>((c:Int),a+1+(j:Int))
def kn (a b:Nat->Int) (c:Nat):List PId:=(List.range c).flatMap fun(i:Nat)=>rm i (a i) (b i-a i).toNat
theorem X3(c:Nat)(f:Int)(n:Nat):rm c f (n+1)=rm c f n++[((c:Int),f+1+(n:Int))]:=by
 unfold rm;rw[aqI,aqi];rfl
theorem X4(c:Nat)(f:Int)(n:Nat):(rm c f n).length=n:=by simp[rm]
theorem Mn(a b:Nat->Int)(c:Nat):kn a b (c+1)=kn a b c++rm c (a c) (b c-a c).toNat:=by
 unfold kn;rw[aqI,aqG];simp
theorem Q5{a b:Nat->Int}{N:Nat}(h:∀i,i<N->0<=a i/\b i<=60):∀c,c<=N->(kn a b c).length<=c*60
 |0,_=>by simp[kn]
 |c+1,d=>by
  have e:=Q5 h c (by omega);have f:=h c (by omega);rw[Mn,ap4,X4,aqZ];omega
theorem ahm{gt early gk}(r:dA b d h j a k n gt m e early i)(x:rl b gk c a f)(P:∀p,p<a->0<=f p/\m p<=60)(Q:∀p,p<a->f p<=60):
  O 278 #[Z d,.slice (some (H gk)) a c] b fun t R=>∃v,t=.returned v/\Gb b.heap.size R v (kn f m a)/\J b R:=by
 have BL:=r.hN;obtain⟨bf,a6,bc,bZ,ee,jC⟩:=r.cells;clear bf a6 bZ ee jC;have BB:=x.IB;have XW:=x.IC;have y:=aa (And.intro r (And.intro x (And.intro P Q)));clear r x P Q;go_enter func278,ntmps278;go_wp2_with fail
 go_loopw [5,14] (fun v p wr=>∃g,g<=a/\p=A (g:Nat)/\Gb b.heap.size wr v (kn f m g)/\J b wr) (fun _ p _=>a-(intOf p).toNat)
 case atStart=>exact⟨0,apZ _,rfl,(show Gb b.heap.size b (.slice none 0 0) [] from aqe _ _ _ _),apY _ _⟩
 case round=>
  obtain⟨g,dZ,rfl,D,z⟩:=hrel;by_cases E:g<a
  ·have sc:=(y.o.1.ae z).F0 E;have BQ:=(y.o.2.1.ae z).cells g E;obtain⟨oR,Q6⟩:=y.o.2.2.1 g E;have hn6:=y.o.2.2.2 g E;have jR:(0:Int)<=(g:Int):=aqc _;have df:(g:Int)<(a:Int):=by omega
   have c3:(g:Int)<(c:Int):=by omega
   have QH:IntKind.i64.wrap (f g+1)=f g+1:=aqS _ (by omega);have L:=aa (And.intro D z);clear D z;obtain⟨S,uA⟩:∃S,S=wr:=⟨_,rfl⟩;subst uA;have U:=aa (Q5 (fun p W=>⟨(y.o.2.2.1 p W).1,(y.o.2.2.1 p W).2⟩) g dZ);have M:=aa (Mn f m g);have gd:(kn f m g).length<=240:=by have :=U.o;omega
   obtain⟨B,X⟩:∃B,B=kn f m g:=⟨_,rfl⟩;rw[<-X]at gd L M;clear X U;obtain⟨q,F⟩:∃q,q=(m g-f g).toNat:=⟨_,rfl⟩;rw[<-F]at M;go_wp2_with fail
   go_loopw [5,8] (fun v s Y=>∃l,l<=q/\s=A (f g+1+(l:Nat))/\Gb b.heap.size Y v (B++rm g (f g) l)/\J b Y) (fun v _ _=>1000-X2 v)
   case atStart=>exact⟨0,apZ _,by simp,by simpa[rm]using L.o.1,L.o.2⟩
   case round=>
    obtain⟨l,Q7,rfl,I,BS⟩:=hrel;obtain⟨u,C⟩:∃u,u=B++rm g (f g) l:=⟨_,rfl⟩;have HAL:=aa (show u.length=B.length+l by rw[C,ap4,X4]);have j5:=aa (show B++rm g (f g) (l+1)=u++[((g:Int),f g+1+(l:Int))] by rw[X3,C,aqs]);have HFN:=aa (fun(t:l=q)=>show u=kn f m (g+1) by rw[M.o,C,t]);rw[<-C]at I;clear C;have zC:q<=60:=by omega
    have nC:u.length<=400:=by have :=HAL.o;omega
    obtain⟨dr,dh,rfl,tW,vE,uy⟩:=bm I;clear uy;unfold maxLen at vE;have w:=aa (And.intro I BS);clear I BS;by_cases au:l<q
    ·have hle:f g+1+(l:Int)<=m g:=by omega
     have bJ:=aa F;clear F;have N:=aa ((apY wr.heap.size wr).alloc (apX _) (.cells #[A g,A (f g+1+(l:Int))] 371));have Iy:=aa (Ky (x1:=(g:Int)) (x2:=f g+1+(l:Int)) (bl (bI wr (.cells #[A g,A (f g+1+(l:Int))] 371))).1 (bl (bI wr (.cells #[A g,A (f g+1+(l:Int))] 371))).2);have eJ:IntKind.i64.wrap (f g+1+(l:Int)+1)=f g+1+(l:Int)+1:=aqS _ (by omega);go_wp2_with (first
      |(at_builtin;refine zB lO 2 16 378 371 (.agg #[A 0,A 0]) (by kernel_rfl) underlying378 rfl (by omega) (fun _=>rfl) rfl (.tmp 29) (.tmp 33) rfl b.heap.size (.slice dr u.length dh) u rfl (c7 w.o.1 N.o) wr.heap.size 1 ((g:Int),f g+1+(l:Int)) rfl Iy.o Kx (by omega) (by unfold maxLen;omega) (by have :=N.o.size;have :=w.o.2.size;omega) ?_;intro v' w10 BO zR Iz;have D2:=aa BO;have F8:=aa zR;clear BO zR Iz)
      |fail)
     go_roundw
     case rel=>
      refine⟨l+1,by omega,by congr 1;omega,?_,?_⟩
      ·rw[j5.o];show w10.ownsRow b.heap.size 371 2 v' (u++[((g:Int),f g+1+(l:Int))]).length ((u++[((g:Int),f g+1+(l:Int))]).flatMap lO);rw[ap4];exact D2.o
      have aY:=w.o.2.trans (N.o.mono w.o.2.size);exact aY.grown F8.o aY.size (fun g x=>(ap1 w.o.1 g x).1)
     case measure=>
      obtain⟨ky,b7,rfl,_,_,_⟩:=bm D2.o;simp only[X2];omega
    have ly:¬f g+1+(l:Int)<=m g:=by omega
    have vK:=aa (show l=q by omega);clear F au;go_wp2_with fail
    refine⟨⟨g+1,by omega,by go_num,?_,w.o.2⟩,by simp[intOf];omega⟩;have :=w.o.1;rw[<-HFN.o vK.o];exact this
  have ho:g=a:=by omega
  have aP:=aa (And.intro D (And.intro z ho));clear D z ho;go_wp2_with fail
  go_ret
  obtain⟨h1,h2,rfl⟩:=aP.o;exact⟨_,rfl,h1,h2⟩
def D5 (w:World) (g a:Nat) (l:List PId):Prop:=∀k (b:k<l.length),w.cell? (K g (a+k*2))=some (A l[k].1)/\w.cell? (K g (a+k*2+1))=some (A l[k].2)
theorem D5.ae{w g off l}{w':World}(h:D5 w g off l)(a:J w w'):D5 w' g off l:=fun k b=>⟨Go.Proofs.YtnkpogjiiohapaaGreatDoor.ae a (h k b).1,Go.Proofs.YtnkpogjiiohapaaGreatDoor.ae a (h k b).2⟩
theorem ahn{l}(h:D5 b d a l)(x:PId)(L:l.length<=1000)(M:a<=100000)(N:l.length<=c)(P:c<=100000):
  O 284 #[.slice (some (K d a)) l.length c,c0 x] b fun e C=>∃i:Int,e=.returned (A i)/\decide (0<=i)=decide (x∈l)/\J b C:=by
 unfold c0;have D:=aa h;clear h;have E:=aa ((apY b.heap.size b).alloc (apX _) (.cells #[A x.1,A x.2] 371));obtain⟨f,g⟩:=bl (bI b (.cells #[A x.1,A x.2] 371));have u:=aa (And.intro f g);clear f g;go_enter func284,ntmps284;go_wp2_with fail
 go_loopw [8] (fun i wr=>∃k,k<=l.length/\i=A (k:Nat)/\x∉l.take k/\J b wr/\wr.cell? (V b 0)=some (A x.1)/\wr.cell? (V b 1)=some (A x.2)) (fun i _=>l.length-(intOf i).toNat)
 case atStart=>exact⟨0,apZ _,rfl,by simp,E.o,u.o.1,u.o.2⟩
 case round=>
  obtain⟨k,Q,rfl,p,j,f,g⟩:=hrel;by_cases q:k<l.length
  ·obtain⟨v,F⟩:=D.o.ae j k q;have R:(0:Int)<=(k:Int):=aqc _;have S:(k:Int)<(l.length:Int):=by omega
   have w:=aa (aqp q);obtain⟨y,r⟩:∃y,y=l[k]:=⟨_,rfl⟩;rw[<-r]at v F w;have I:=aa (show y∈l from r▸ap6 q);have s:=aa p;clear p r;have m:=aa j;clear j;by_cases n:x=y
   ·subst n;go_wp2_with fail
    go_region
    go_wp2_with fail
    go_ret
    exact⟨k,rfl,by rw[decide_eq_true I.o,decide_eq_true (aqc _)],m.o.drew⟩
   have z:=aa (show x∉l.take (k+1) by
    rw[w.o,ap7];rintro(h|h)
    ·exact s.o h
    exact n (ap9.1 h))
   by_cases t:x.1=y.1
   ·have B:¬x.2=y.2:=fun B=>n (Prod.ext t B)
    rw[<-t]at v;clear t n;go_wp2_with fail
    go_region
    go_wp2_with fail
    exact⟨⟨k+1,by omega,by go_num,z.o,m.o.drew,f,g⟩,by simp[intOf];omega⟩
   clear n;go_wp2_with fail
   go_region
   go_wp2_with fail
   exact⟨⟨k+1,by omega,by go_num,z.o,m.o.drew,f,g⟩,by simp[intOf];omega⟩
  have s:=aa p;clear p;have m:=aa j;clear j;go_wp2_with fail
  go_ret
  refine⟨-1,rfl,?_,m.o⟩;have :=s.o;rw[aql (by omega)]at this;rw[decide_eq_false this]
  decide
theorem aho{l}(h:D5 b d a l)(f g:Int)(q:l.length<=1000)(r:a<=100000)(s:l.length<=c)(t:c<=100000):
  O 279 #[.slice (some (K d a)) l.length c,.agg #[A f,A g]] b fun e u=>e=.returned (.bool (decide ((f,g)∈l)))/\J b u:=by
 have j:=aa ((apY b.heap.size b).alloc (apX _) (.cells #[A f,A g] 371));have k:=aa (ahn (h.ae j.o) (f,g) q r s t);clear h;unfold c0 at k;go_enter func279,ntmps279;go_wp2_with fail
 refine k.o.mono ?_;rintro e v ⟨i,rfl,m,n⟩;have p:=aa (And.intro m n);clear m n;go_wp2;go_ret
 rw[<-p.o.1];exact⟨rfl,j.o.trans (p.o.2.mono j.o.size)⟩
end
section
open Go.RowKit Tryz
attribute [local go_sem] Oper.semAt_some
def tq (S:Nat->Prop) (W a:World):Prop:=∀k,S k->a.heap[k]?=W.heap[k]?
theorem tq.trans{S a B C}(h:tq S a B)(k:tq S B C):tq S a C:=fun i b=>(k i b).trans (h i b)
theorem tq.cell{S a B}(h:tq S a B){g i:Nat}(c:S g){v:Value}(b:a.cell? (K g i)=some v):B.cell? (K g i)=some v:=by
 unfold World.cell? at b⊢;simp only at b⊢;rw[h g c];exact b
def chunks (a:Nat):Nat:=(a+7)/8
def zT (a m:Nat):Nat:=min 8 (a-m)
def Gc (g a m:Nat):Value:=.slice (some (K g (m*2))) (zT a m) (zT a m)
abbrev zU (a:Nat):={k:Nat//k<chunks a}
theorem ahp(F:Fence)(n:Nat)(e9:F.fn 283)(oo:F.round=none)(hn:1<=n)(l y z g c B:Nat)(hlen:c<=1000)(hcap:c<=B)(IE:B<=maxLen)(a:Option Addr)(av:0<c->a=some (H g))(S:Nat->Prop)(b0:S y)(M:S z)(b N:List (zU c)->World->Prop)(Dg:∀d x W,b d W->d.length<chunks c->YieldAt F (n-1) prog l #[Gc g c (8*x.1)] W fun e q=>
   (e=.returned (.bool true)/\b (d++[x]) q/\tq S W q)\/(e=.returned (.bool false)/\N (d++[x]) q))(W:World)(vg:AbidesFrom W.heap.size b)(Q9:W.cell? (H y)=some (.slice a c B))(Ra:W.cell? (H z)=some (A 8))(h0:b [] W):
  CallsIn F n prog 283 #[.func (.yield l) #[] #[],Z y,Z z] W fun e q=>(∃v,e=.returned v)/\
   ((∃P:List (zU c),P.map (·.1)=List.range (chunks c)/\b P q)\/(∃d:List (zU c),(∃k,k<=chunks c/\d.map (·.1)=List.range k)/\N d q)):=by
 refine callsIn_of_wp func283 rfl e9 ?_ oo;simp only[ntmps283,arp,aqk,aqC,Nat.reduceAdd,Nat.reduceSub,ar7,ar8,ar9,asa,aqK,aqD]
 gi_wp2
 gi_loopw [4] (fun i wr=>∃(m k:Nat) (d:List (zU c)),Hq (m=8*k)/\k<=chunks c/\i=A (m:Int)/\d.map (·.1)=List.range k/\b d wr/\tq S W wr)
  (fun i _=>c+8-(intOf i).toNat)
 case atStart=>exact⟨0,0,[],aa rfl,apZ _,rfl,rfl,h0,fun _ _=>rfl⟩
 case round=>
  obtain⟨m,k,d,u,hk,rfl,j,C,w⟩:=hrel;have Q:=w.cell b0 Q9;have D:=w.cell M Ra;have gd:d.length=k:=by have :=congrArg List.length j;simpa using this
  by_cases s:k<chunks c
  ·have R:b d wr.drew:=vg d wr _ none C ⟨rfl,rfl,rfl,apX _,fun _ _ _=>rfl⟩ (fun r e=>by cases e);obtain⟨fn,tmps,assign,body,E,U⟩:=Dg d ⟨k,s⟩ wr.drew R (by omega);have zC:m<c:=by have :=u.o;unfold chunks at s;omega
   obtain rfl:=av (by omega);rw[<-u.o]at E;have I:=E;unfold Gc at I;obtain⟨p,t⟩:∃p,p=zT c m:=⟨_,rfl⟩;rw[<-t]at I;have aou:p<=8:=by rw[t];unfold zT;omega
   have aov:m+p<=c:=by rw[t];unfold zT;omega
   have nP:(0:Int)<=(m:Int):=aqc _;have qw:(m:Int)<(c:Int):=by omega
   have aow:min (8:Int) ((c-m:Nat):Int)=(p:Int):=by rw[t];unfold zT;omega
   have eQ:((m:Int)+(p:Int)).toNat-m=p:=by omega
   clear E;have Ip:=aa t;clear t
   gi_wp2
   gi_region
   all_goals gi_wp2
   all_goals refine U.mono ?_
   all_goals clear U R I
   all_goals
    rintro e jh (⟨rfl,X,L⟩|⟨rfl,Y⟩)
    ·replace D:=L.cell M (show wr.drew.cell? _=_ from D);have f:=aa (And.intro X (And.intro L (And.intro w j)));clear X L w j Q
     gi_wp2
     go_roundw
     case rel=>exact⟨m+8,k+1,d++[⟨k,s⟩],aa (by have :=u.o;omega),s,by go_num,by rw[aqi,f.o.2.2.2,aqI];rfl,f.o.1,f.o.2.2.1.trans f.o.2.1⟩
     case measure=>simp[intOf];omega
    have f:=aa (And.intro Y j);clear Y j Q D
    gi_wp2
    refine bodyPost_ret (results_none rfl _ _ _) rfl ?_;exact⟨⟨_,rfl⟩,.inr ⟨_,⟨k+1,s,by rw[aqi,f.o.2,aqI];rfl⟩,f.o.1⟩⟩
  have kN:¬(m:Int)<(c:Int):=by have :=u.o;unfold chunks at s;omega
  have FM:k=chunks c:=by omega
  have f:=aa (And.intro j (And.intro C FM));clear j C FM
  gi_wp2
  go_end0
  obtain⟨h1,h2,al⟩:=f.o;exact⟨⟨_,rfl⟩,.inl ⟨d,h1.trans (congrArg List.range al),h2⟩⟩
theorem ahq(F:Fence)(n:Nat)(d:F.fn 277)(f:F.round=none)(a:Option Addr)(b c:Nat)(w:World):
  CallsIn F n prog 277 #[.slice a b c,A 8] w fun e g=>e=.returned (.func (.func 283) #[] #[Z w.heap.size,Z (w.heap.size+1)])/\g=(w.alloc (.cells #[.slice a b c] 378)).alloc (.cells #[A 8] 3):=by
 refine callsIn_of_wp func277 rfl d ?_ f;simp only[ntmps277,arp,aqk,aqC,Nat.reduceAdd,Nat.reduceSub,ar7,ar8,ar9,asa,aqK,aqD]
 gi_wp2
 go_ret
 exact⟨rfl,rfl⟩
theorem ahr(F:Fence)(n:Nat)(i:F.fn 283)(j:F.round=none)(m:1<=n)(d e g c f:Nat)(o:c<=1000)(p:c<=f)(q:f<=maxLen)(a:Option Addr)(r:0<c->a=some (H g))(S:Nat->Prop)(s:S d)(t:S e)(w:World)(u:w.cell? (H d)=some (.slice a c f))(v:w.cell? (H e)=some (A 8)):
  SeqStopsK F n prog 283 #[Z d,Z e] (fun x:zU c=> #[Gc g c (8*x.1)]) (tq S) (fun y=>y.map (·.1)=List.range (chunks c)) (fun z=>∃k,k<=chunks c/\z.map (·.1)=List.range k) (chunks c) w:=fun l b B W h C _ D E=>
 ahp F n i j m l d e g c f o p q a r S s t b B D W C (Go.Proofs.YtnkpogjiiohapaaGreatDoor.ae h u) (Go.Proofs.YtnkpogjiiohapaaGreatDoor.ae h v) E
end
end Go.Proofs.YtnkpogjiiohapaaGreatDoor
