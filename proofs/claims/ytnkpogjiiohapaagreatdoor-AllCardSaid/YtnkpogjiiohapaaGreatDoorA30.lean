/- Our own text. -/
import Derived.Deep.Slices
import Derived.ReadsIn
import Derived.Test.YtnkpogjiiohapaaGreatDoorA29
set_option linter.unusedSimpArgs false
set_option linter.unusedVariables false
set_option maxRecDepth 1000000
set_option maxHeartbeats 40000000
namespace Go.Proofs.YtnkpogjiiohapaaGreatDoor
section
open Go.RowKit Go.ChangeShapes Go.WideShapes Go.Deep Tryz
variable {a h:Nat->Bool}{b:Bool}{c:Nat}{d i:World}{e:Program}{f:TypeId}
theorem Yy {g:Type} {l:TypeId×Value->g} {base:Nat} (j:e.underlying f=some (.int .i64)\/e.underlying f=some .string\/e.underlying f=some .bool) (n:Nat) (k:List Value):DataW.trod l e d base a b n f k=DataW.trod l e i base h b n f k:=by
 cases n with
 |zero=>rfl
 |succ n=>
  rcases j with j|j|j<;>unfold DataW.trod<;>rw[j]<;>
  .match k with
   |[]=>rfl
   |[c]=>cases c<;>rfl
   |c::_::_=>cases c<;>rfl
theorem afF {g:Type} {l:TypeId×Value->g} {base:Nat} {m:Array Field} (o:e.underlying f=some (.struct m)) (p:∀c∈m.toList,∀n k,DataW.trod l e d base a b n c.type k=DataW.trod l e i base h b n c.type k) (n:Nat) (k:List Value):DataW.trod l e d base a b n f k=DataW.trod l e i base h b n f k:=by
 cases n with
 |zero=>rfl
 |succ n=>
  unfold DataW.trod;rw[o];have j:(m.toList.mapM λc=>DataW.trod l e d base a b n c.type ((k.drop c.offset).take (e.cellsOf c.type)))=m.toList.mapM λc=>DataW.trod l e i base h b n c.type ((k.drop c.offset).take (e.cellsOf c.type)):=mapM_congr_mem λc q=>p c q _ _
  split <;>simp_all
theorem D3 {g:Type} {l:TypeId×Value->g} {base:Nat} {i:List Value} {x:DataW g×List MemPlace} (m:e.underlying f=some (.int .i64)) (h:DataW.trod l e d base a b c f i=some x):∃k,i=[A k]/\mv k:=by obtain⟨k,n,_,j⟩:=DataW.trod_int m h;refine⟨k,n,?_⟩;simp[Lit.wf]at j;exact j
theorem Ow:prog.cellsOf 87=11:=by kernel_rfl
theorem asp:prog.cellsOf 36=2:=by kernel_rfl
theorem F3:prog.cellsOf 3=1:=by kernel_rfl
theorem asq:prog.cellsOf 9=1:=by kernel_rfl
theorem asr:prog.cellsOf 4=1:=by kernel_rfl
theorem ass {d:Type} {e:TypeId×Value->d} {w:World} {base:Nat} {g:List Value} {x:DataW d×List MemPlace} (h:DataW.trod e prog w base a b c 87 g=some x):
  ∃o:kU,g=(Of o).toList/\r5 o:=by
 obtain⟨B,m,rfl,rfl,i,C,f⟩:=DataW.trod_struct underlying87 h;rw[Ow]at i
 match B,C with
 |[D,E,F,I,L,M,N,P,Q,R],_=>
  match g,i with
  |[S,U,W,X,eN,Y,uu,BS,av5,av6,c10],_=>
   have f0:DataW.trod e prog w base a b m 3 [S]=some D:=by simpa[F3]using f 0 _ rfl
   have f1:DataW.trod e prog w base a b m 3 [U]=some E:=by simpa[F3]using f 1 _ rfl
   have f2:DataW.trod e prog w base a b m 3 [W]=some F:=by simpa[F3]using f 2 _ rfl
   have f3:DataW.trod e prog w base a b m 3 [X]=some I:=by simpa[F3]using f 3 _ rfl
   have f4:DataW.trod e prog w base a b m 36 [eN,Y]=some L:=by simpa[asp]using f 4 _ rfl
   have f5:DataW.trod e prog w base a b m 3 [uu]=some M:=by simpa[F3]using f 5 _ rfl
   have f6:DataW.trod e prog w base a b m 9 [BS]=some N:=by simpa[asq]using f 6 _ rfl
   have f7:DataW.trod e prog w base a b m 3 [av5]=some P:=by simpa[F3]using f 7 _ rfl
   have f8:DataW.trod e prog w base a b m 3 [av6]=some Q:=by simpa[F3]using f 8 _ rfl
   have f9:DataW.trod e prog w base a b m 4 [c10]=some R:=by simpa[asr]using f 9 _ rfl
   obtain⟨eh,j,h0⟩:=D3 underlying3 f0;obtain⟨dN,k,h1⟩:=D3 underlying3 f1;obtain⟨dm,l,h2⟩:=D3 underlying3 f2;obtain⟨hK,n,ax⟩:=D3 underlying3 f3;obtain⟨z0,z1,m2,_,_,p,q⟩:=trod_struct2 underlying36 f4;simp only[F3,List.drop,List.take]at p q;obtain⟨km,r,a8⟩:=D3 underlying3 p;obtain⟨z5,s,cP⟩:=D3 underlying3 q;obtain⟨BR,t,gi⟩:=D3 underlying3 f5;obtain⟨key,u,_,hy⟩:=DataW.trod_string underlying9 f6;obtain⟨DX,v,xe⟩:=D3 underlying3 f7;obtain⟨DY,y,vJ⟩:=D3 underlying3 f8;obtain⟨yes,z,_⟩:=DataW.trod_bool underlying4 f9;simp only[SC,sb]at j k l n r s t u v y z;subst j k l n r s t u v y z;exact⟨⟨eh,dN,dm,hK,km,z5,BR,key,DX,DY,yes⟩,rfl,⟨h1,gi,xe,vJ,hy⟩⟩
theorem ast {b:Type} {enc:TypeId×Value->b} {w:World} {base:Nat} {held:Bool} (e:World) (g:Nat->Bool) (n:Nat) (c:List Value):DataW.trod enc prog w base a held n 87 c=DataW.trod enc prog e base g held n 87 c:=by
 have h:∀n c,DataW.trod enc prog w base a held n 3 c=DataW.trod enc prog e base g held n 3 c:=Yy (.inl underlying3);have i:∀n c,DataW.trod enc prog w base a held n 9 c=DataW.trod enc prog e base g held n 9 c:=Yy (.inr (.inl underlying9));have j:∀n c,DataW.trod enc prog w base a held n 4 c=DataW.trod enc prog e base g held n 4 c:=Yy (.inr (.inr underlying4));have k:=afF underlying36 λf d=>by simp only[ft,SZ,S0]at d;rcases d with rfl|rfl<;>exact h
 refine afF underlying87 (λf d=> ?_) n c;simp only[ft,SZ,S0]at d;rcases d with rfl|rfl|rfl|rfl|rfl|rfl|rfl|rfl|rfl|rfl<;>first |exact h|exact i|exact j|exact k
theorem asu {α:Type} (d:α) {p:Nat->α->Prop} (h:∀i,i<c->∃x,p i x):∃f:Nat->α,∀i,i<c->p i (f i):=by
 have a:∀i,∃x,i<c->p i x:=λi=>by
  by_cases b:i<c
  .simp_all
  exact⟨d,λe=>absurd e b⟩
 exact⟨λi=>Classical.choose (a i),λi=>atG (a i)⟩
def KS (w:World) (c:Option Addr) (a:List kU):Prop:=∀i (d:i<a.length),∃g b,c=some (K g b)/\∀j v,(Of a[i])[j]?=some v->w.cell? (K g (b+i*11+j))=some v
theorem KS.ak{w a b}{w':World}(h:KS w a b)(e:Below c w w')(f:w.heap.size<=c):KS w' a b:=λi k=>by obtain⟨g,off,l,m⟩:=h i k;refine⟨g,off,l,λj v n=> ?_⟩;have d:=m j v n;rw[e.cell (c0 (e7 w _ d) f)];exact d
theorem asv {f:Type} {enc:TypeId×Value->f} {v:Value} {b:DataW f} {y:List MemPlace} (h:DataW.Trod enc prog d 0 (λ_=>true) true 22 v b y) (S:∀p∈y,p.block<d.heap.size) (z:∃a n c,v=.slice a n c):
  ∃(L:Option Addr) (r:List kU) (cap:Nat),v=.slice L r.length cap/\(∀i (k:i<r.length),r5 r[i])/\KS d L r/\(b=.nil/\r=[]\/∃M spare,b=.slice M spare/\M.length=r.length)/\r.length<=9223372036854775807/\
   ∀l,J d l->∀q:Nat->Bool,(∀p∈y,q p.block=true)->DataW.Trod enc prog l 0 q true 22 v b y:=by
 obtain⟨fuel,h⟩:=h;obtain⟨cq,N,cf,rfl⟩:=z;rcases open_slice underlying22 h with⟨s,E⟩|⟨a,len,cap,m,n,D,t,s,ah,U,W,X,E,P⟩
 .simp[Value.cells]at s;obtain⟨rfl,rfl,rfl⟩:=s;obtain⟨rfl,rfl⟩:=E;refine⟨none,[],0,rfl,(λi k=>(by cases k)),(λi k=>(by cases k)),.inl ⟨rfl,rfl⟩,(by simp),(λl _ q _=>⟨1,?_⟩)⟩;simp[Value.cells,DataW.trod,underlying22]
 simp[Value.cells]at s;obtain⟨rfl,rfl,rfl⟩:=s;subst X;obtain⟨rfl,rfl⟩:=E;rw[Ow]at P;obtain⟨e,u⟩:=asu (α:=kU) ⟨0,0,0,0,0,0,0,⟨#[]⟩,0,0,false⟩ (p:=λi o=>r5 o/\d.cells? 0 (a.add (i*11)) 11=some (Of o).toList/\DataW.trod enc prog d 0 (λ_=>true) true n 87 (Of o).toList=some (D i,t i)) (λi k=>by obtain⟨F,B,x⟩:=P i k;obtain⟨o,rfl,Y⟩:=ass x;exact⟨o,Y,B,x⟩)
 unfold maxLen at W;refine⟨some a,(List.range N).map e,m,by simp,λi k=> ?_,λi k=> ?_,.inr ⟨_,_,rfl,by simp⟩,by simp;omega,λl bl q mD=> ?_⟩
 .simp at k⊢;exact(u i (by omega)).1
 .simp at k;have B:=(World.cells?_some (u i (by omega)).2.1).2.2;have C:a.spot=none:=by
   by_cases I:i=0
   .subst I;have :=World.cell?_spot ((B 0 (by omega)).trans (show _=some (A (e 0).aM) from rfl));simpa[Addr.add]using this
   have :=World.cell?_spot ((World.cells?_some (u 0 (by omega)).2.1).2.2 0 (by omega)|>.trans (show _=some (A (e 0).aM) from rfl));simpa[Addr.add]using this
  obtain⟨g,off,spot⟩:=a;subst C;refine⟨g,off,rfl,λj v z=> ?_⟩;have aB:j<11:=by have :=(e8.1 z).1;simpa[Of]using this
  have x:=B j aB;rw[add_add,add_plain,<-Nat.add_assoc]at x;rw[x];simpa using z
 have Q:∀i,i<m->∃F n,l.cells? 0 (a.add (i*prog.cellsOf 87)) (prog.cellsOf 87)=some F/\DataW.trod enc prog l 0 q true n 87 F=some (D i,t i):=λi k=>by
  refine⟨_,n,World.cells?_carry (w:=d) (by rw[Ow];exact(u i k).2.1) λp R=>bl.same ?_,(ast d (λ_=>true) n _).trans (u i k).2.2⟩;have Gg:p.block=a.block:=by simp only[MemPlace.row,dF]at R;obtain⟨j,_,rfl⟩:=R;simp[MemPlace.block,Addr.add];split <;>rfl
  rw[Gg];refine S (.cell a.block (a.off+0)) (p3 _ ?_);simp only[MemPlace.row,dF,rA];exact⟨0,by rw[Ow];omega,rfl⟩
 by_cases I:m=0
 .subst I;obtain rfl:N=0:=by omega
  cases C:q a.block with
  |false=>have :=shut_slice (enc:=enc) (w:=l) (held:=true) (a:=a) (spare:=q) (base:=0) underlying22 (b6 _) (bW 0) (by omega) C D t (λi k=>by omega);simpa using this
  |true=>exact shut_slice_whole (enc:=enc) (w:=l) (held:=true) (a:=a) (spare:=q) (base:=0) underlying22 (b6 _) (bW 0) (by omega) C D t Q
 refine shut_slice_whole (enc:=enc) (w:=l) (held:=true) (a:=a) (spare:=q) (base:=0) underlying22 (b6 _) U (by unfold maxLen;omega) (mD (.cell a.block (a.off+0)) (p3 _ ?_)) D t Q;simp only[MemPlace.row,dF,rA];exact⟨0,by rw[Ow];omega,rfl⟩
end
section
open Go.RowKit Tryz
attribute [local go_sem ↓] Go.wp_at_zero Go.wp_at_succ
variable {a d e:World}{b c:Nat}
theorem asw:kV d.heap.size d.heap.size (.slice none 0 0) (.slice none 0 0) (.slice none 0 0) (.slice none 0 0) [] [] [] [] (λ_ _=>False) (λk=>k=d.heap.size) 0 (d.alloc (.cells #[.slice none 0 0,.slice none 0 0,.slice none 0 0,.slice none 0 0] 84)) where
 y:=bZ d _
 bH:=⟨rfl,.inl ⟨rfl,rfl⟩⟩
 a:=⟨rfl,.inl ⟨rfl,rfl⟩⟩
 b:=⟨rfl,.inl ⟨rfl,rfl⟩⟩
 c:=⟨rfl,.inl ⟨rfl,rfl⟩⟩
 fB:=λi e=>by cases e
 kD:=λi _ _ e=>by simp
 qv:=λi _ e=>by simp
 cc:=λi _ e=>by simp
 bd:=λk f=>by simp_all
 nH:=rfl
 uS:=λk f=>by cases f
 cm:=λk f=>by cases f
 uT:=λk f=>by cases f
 rc:=λk f=>by cases f
 pS:=λi e=>by cases e
 Am:=λi e=>by cases e
 fG:=λi e=>by cases e
 yY:=bW _
 nE:=bW _
 rY:=bW _
 nF:=bW _
 bs:=by simp
theorem ko.grow{base}(h:ko base b c a d)(f:J d e):ko base b c a e:=by obtain⟨i,j,k,l,m,n,o,p,q,R,g,r⟩:=h;exact⟨i,j,k,l,m,n,o,p,q,R,g.dn f,r.trans (f.mono g.bs)⟩
theorem ko.more{base gy a w W}{b:Nat}(h:ko base gy a w W)(c:a<=b):ko base gy b w W:=by obtain⟨d,e,f,g,i,j,k,l,m,R,n,o⟩:=h;exact⟨d,e,f,g,i,j,k,l,m,R,n.more c,o⟩
theorem ko.after{base:Nat}(h:Below base a d)(f:ko base b c d e):ko base b c a e:=by obtain⟨g,i,j,k,l,m,n,o,p,R,q,r⟩:=f;exact⟨g,i,j,k,l,m,n,o,p,R,q,h.trans r⟩
theorem ko.whole {base i j:Nat} (h:ko base i j e d) (l:j<2000000000000):O 36 #[.pointer (some (K i 1))] d λf k=>f=ad (.bool true)/\J d k:=by obtain⟨m,n,o,p,q,r,s,t,u,R,g,v⟩:=h;have :=g.nE;have :=g.rY;have :=g.nF;exact aru g.y (by omega) (by omega) (by omega) g.a g.b g.c g.pS.nK g.Am.nK g.fG.nK
theorem ko.step {base i j:Nat} {w:World} (h:ko base i j w e) (m:base=w.heap.size) (n:Pow w) (p:j<2000000000000) (o:kU) (q:r5 o) {f:Int} (s:F2 f) (t:f<=22) (u:1<=o.aM/\o.aM<=f):O 35 #[Z i,.agg #[A o.aM,A o.r,A o.c,A o.d,A o.i1,A o.i2,A o.bJ,.string o.key,A o.a,A o.b,.bool o.yes]] e λg w'=>g=ad (.bool true)/\ko base i (j+1) w w':=by obtain⟨x,y,z,B,C,D,E,F,I,R,v,k⟩:=h;refine(aso v p o q (n.ak (m▸k)) s t u).mono λg w' l=>⟨l.1,l.2.after k⟩
theorem asx:r5 ⟨1,0,0,0,0,0,0,⟨#[]⟩,3,4,false⟩:=⟨⟨by decide,by decide⟩,⟨by decide,by decide⟩,⟨by decide,by decide⟩,⟨by decide,by decide⟩,by show(0:Nat)<=maxLen;simp⟩
theorem asy:r5 ⟨3,0,0,0,0,0,0,⟨#[108]⟩,0,0,true⟩:=⟨⟨by decide,by decide⟩,⟨by decide,by decide⟩,⟨by decide,by decide⟩,⟨by decide,by decide⟩,by show(1:Nat)<=maxLen;unfold maxLen;omega⟩
theorem asz {y:Option Addr} {d:List kU} {cap gk:Nat} (I:KS a y d) (L:∀i (hi:i<d.length),r5 d[i]) (hn:d.length<=1500000000000) {ks:List Int} {c:Int} (n:F2 c) (o:3<=c/\c<=22) (M:∀k∈ks,1<=k/\k<=c) (h9:ks.length<=22) (z:∀(q:Nat) (N:q<ks.length),a.cell? (K gk q)=some (A ks[q])) (r:Pow a):
  O 13 #[.slice y d.length cap,aa gk ks.length ks.length] a λe P=>e=ad (.bool true)/\J a P:=by
 have Q:=(show ko a.heap.size a.heap.size 0 a (a.alloc (.cells #[.slice none 0 0,.slice none 0 0,.slice none 0 0,.slice none 0 0] 84)) from⟨_,_,_,_,_,_,_,_,_,_,asw,aV a _⟩).step rfl r (by omega) ⟨1,0,0,0,0,0,0,⟨#[]⟩,3,4,false⟩ asx n o.2 ⟨by decide,by show(1:Int)<=c;omega⟩;go_enter func13,ntmps13;go_wp2_with fail
 refine Q.mono ?_;rintro e w1 ⟨rfl,s⟩;go_wp2_with fail
 refine((λW (h:ko a.heap.size a.heap.size 1 a W)=>h.step rfl r (by omega) ⟨3,0,0,0,0,0,0,⟨#[108]⟩,0,0,true⟩ asy n o.2 ⟨by decide,by simp_all⟩) _ s).mono ?_;rintro e w2 ⟨rfl,R⟩;go_wp2;go_loopw [6,7] (λok i wr=>ok=.bool true/\∃p:Nat,p<=d.length/\i=A p/\ko a.heap.size a.heap.size (p+2) a wr) (λ_ i _=>d.length-(intOf i).toNat)
 case atStart=>exact⟨rfl,0,b6 _,rfl,R⟩
 case round=>
  obtain⟨rfl,p,au,rfl,B⟩:=hrel;by_cases C:p<d.length
  .obtain⟨g,S,rfl,l⟩:=I p C;have lh:(0:Int)<=(p:Int):=by simp
   have s:(p:Int)<(d.length:Int):=by omega
   have D:=l 0 _ rfl;obtain⟨t,rfl⟩:∃t,t=wr:=⟨_,rfl⟩;go_wp2;go_loopw [8,9] (λu j wr=>∃(b:Bool) (q:Nat),q<=ks.length/\u=.bool b/\j=A q/\(b=true->1<=d[p].aM/\d[p].aM<=c)/\J t wr) (λ_ j _=>ks.length-(intOf j).toNat)
   case atStart=>exact⟨false,0,b6 _,rfl,rfl,λh=>(by cases h),ca _ _⟩
   case round=>
    obtain⟨b,q,N,rfl,rfl,m,v⟩:=hrel;have w:=B.grow v;have f:=show J a wr by obtain⟨_,_,_,_,_,_,_,_,_,_,_,m⟩:=w;exact m
    by_cases x:q<ks.length
    .have qb:(0:Int)<=(q:Int):=by simp
     have U:(q:Int)<(ks.length:Int):=by omega
     have X:=ak f (z q x);cases b with
     |true=>
      go_wp2;go_region
      all_goals(go_wp2;go_roundw)
      case rel=>exact⟨true,q+1,by omega,rfl,by go_num,λ_=>m trivial,v.drew⟩
      case measure=>simp[intOf];omega
     |false=>
      have Y:=M ks[q] (dB x);generalize ks[q]=E at *;go_wp2;go_region_held3 (λW=>W.cell? (K g (S+p*11))=some (A d[p].aM)/\W.cell? (K gk q)=some (A E)) (first |exact⟨ak f D,X⟩|exact⟨ak f.drew D,ak f.drew (z q x)⟩) (fail)
      go_wp2;go_roundw
      case rel=>exact⟨d[p].aM==E,q+1,by omega,rfl,by go_num,λh=>by rw[OH]at h;rw[h];exact Y,v.drew⟩
      case measure=>simp[intOf];omega
    have U:¬((q:Int)<(ks.length:Int)):=by omega
    obtain rfl:q=ks.length:=by omega
    cases b with
    |false=>
     go_wp2;go_roundw
     case rel=>exact⟨rfl,p+1,by omega,by go_num,w.more (by omega)⟩
     case measure=>simp[intOf];omega
    |true=>
     have pB:=w.step rfl r (by omega) d[p] (L p C) n o.2 (m rfl);have d0:=ak f (l 0 _ rfl);have d1:=ak f (l 1 _ rfl);have d2:=ak f (l 2 _ rfl);have d3:=ak f (l 3 _ rfl);have d4:=ak f (l 4 _ rfl);have d5:=ak f (l 5 _ rfl);have d6:=ak f (l 6 _ rfl);have d7:=ak f (l 7 _ rfl);have d8:=ak f (l 8 _ rfl);have d9:=ak f (l 9 _ rfl);have d10:=ak f (l 10 _ rfl);simp only[r9]at d0;go_wp2_with fail
     refine pB.mono ?_;rintro e w3 ⟨rfl,F⟩;go_wp2_with fail
     refine(F.whole (by omega)).mono ?_;rintro e w4 ⟨rfl,hY⟩;go_wp2;go_roundw
     case rel=>exact⟨rfl,p+1,by omega,by go_num,(F.grow hY).more (by omega)⟩
     case measure=>simp[intOf];omega
  have s:¬((p:Int)<(d.length:Int)):=by omega
  go_wp2;go_ret
  obtain⟨_,_,_,_,_,_,_,_,_,_,_,m⟩:=B;exact⟨rfl,m⟩
end
section
open Go.RowKit Tryz
variable {a h k m n:Nat}{b:List PId}{c i l:Nat->Prop}{d:Value}{e j:World}{f:gS}
theorem ed.shut{M s}(h:ed a M s)(c d:Nat):ed a M (DC s c d):=⟨h.bJ,h.copy,h.own,h.j1,h.xu,h.iY,h.msgs,h.k9,h.uE,h.BN,h.BO,h.Ds⟩
theorem KT {α β:Type} {l:List α} {m:List β} (h:l.length=m.length):l=[]↔m=[]:=by rw[<-age,<-age,h]
theorem asA (g:gT e m c h k d b i l a n f) (y:J e j) (C D:Int):
  O 27 #[Z h,A C,A D] j λq z=>∃r,q=ad (A r)/\Duo e j m c h k d b a n 113 #[Z k,A C,A D] (A r) z:=by
 obtain⟨R,U,W,x,I,_⟩:=(g.ak y).fB;by_cases B:mG a C D
 .obtain⟨o,p,u,v,w,rfl,rfl⟩:=B;have F:=(g.rel.rel.ms o p u v w).len;have X:=g.rel.na.len o p u v;have Y:=g.rel.na.len p o v u;have sd:=(g.rel.rel.ms p o v u (eE w)).len;refine(amB x.m u v w).mono λq z t=> ?_
  refine⟨_,t.1,Ao g y (P':=⟨f.M,Fk a f.s o p,DD a f.S o p⟩) (.ofM _ I (x.ok.ask u v w) x.md t.2) ⟨g.rel.rel.ask u v w (by omega),g.rel.na.ask u v,g.rel.tK,g.rel.a6.same (by unfold Fk;split <;>rfl) (by unfold DD;split <;>rfl) (by unfold DD;split <;>rfl)⟩ λL N=> ?_⟩;obtain⟨aY,fL,I',kn,E,P,_⟩:=N;refine(apJ E o p u v w).mono λq Q t=>⟨?_,.of _ _ P t.2⟩
  rw[t.1];simp only[g.rel.rel.sh o p u v w,KT F,F,show((f.S.ms o p).length=12)=(12<=(f.S.ms o p).length) from propext ⟨λq=>by omega,λq=>by omega⟩]
 exact(aoN x.m C D B).mono λq z t=>⟨9,t.1,rv g y (by rw[t.2];exact ca _ _) λL _ _ _ _ E=>(aqO E C D B).mono λq Q t=>⟨t.1,by rw[t.2];exact ca _ _⟩⟩
theorem asB (g:gT e m c h k d b i l a n f) (x:J e j) (C D:Int):
  O 39 #[Z h,A C,A D] j λq y=>∃r,q=ad (A r)/\Duo e j m c h k d b a n 114 #[Z k,A C,A D] (A r) y:=by
 obtain⟨W,X,Y,w,F,_⟩:=(g.ak x).fB;by_cases z:mG a C D
 .obtain⟨o,p,t,u,v,rfl,rfl⟩:=z;have fp:=g.rel.rel.sh o p t u v;have iE:=g.rel.na.len o p t u;have Ae:=g.rel.na.len p o u t;have sd:=(g.rel.rel.ms p o u t (eE v)).len;refine(am3 w.m w.ok t u v).mono λq y s=> ?_
  obtain⟨I,L,B,N⟩:=s;replace s:=aN I N;refine⟨_,s.1,Ao g x (P':=⟨f.M,L,pk a f.S o p⟩) (.ofM _ F (w.ok.Du t u v B) w.md s.2) ⟨g.rel.rel.Du w.ok t u v (by omega) B,g.rel.na.XV t u v,g.rel.tK,g.rel.a6.Du B⟩ λP Q=> ?_⟩;obtain⟨aY,fL,I',kn,E,R,_⟩:=Q;refine(aqz E g.rel.na o p t u v).mono λq U s=>⟨?_,.of _ _ R s.2⟩
  rw[s.1];simp only[KT ((g.rel.rel.ms o p t u v).len)]
 exact(aoO w.m C D z).mono λq y s=>⟨9,s.1,rv g x (by rw[s.2];exact ca _ _) λP _ _ _ _ E=>(aqP E C D z).mono λq U s=>⟨s.1,by rw[s.2];exact ca _ _⟩⟩
theorem asC (g:gT e m c a h d b i l k n f) (y:J e j) (C D:Int):
  O 41 #[Z a,A C,A D] j λq z=>∃r,q=ad (A r)/\Duo e j m c a h d b k n 117 #[Z h,A C,A D] (A r) z:=by
 obtain⟨Q,R,U,x,F,_⟩:=(g.ak y).fB;by_cases B:mG k C D
 .obtain⟨o,p,u,v,w,rfl,rfl⟩:=B;have W:=g.rel.rel.sh o p u v w;have X:=g.rel.na.len o p u v;have Y:=g.rel.na.len p o v u;have sd:=(g.rel.rel.ms p o v u (eE w)).len;refine(amE x.m u v w).mono λq z t=> ?_
  refine⟨_,t.1,Ao g y (P':=⟨f.M,Dq f.s o p,if f.S.ms o p=[] then f.S else H8 f.S o p⟩) (.ofM _ F (x.ok.Fq u v w) x.md t.2) ⟨g.rel.rel.Fq u v w,by split;exact g.rel.na;exact g.rel.na.Fq u v,g.rel.tK,g.rel.a6.same (s':=Dq f.s o p) (S':=if f.S.ms o p=[] then f.S else H8 f.S o p) (by unfold Dq;(repeat' split)<;>rfl) (by split <;>rfl) (by split <;>rfl)⟩ λI L=> ?_⟩;obtain⟨aY,fL,I',kn,E,N,_⟩:=L;refine(apH E o p u v w).mono λq P t=>⟨?_,.of _ _ N t.2⟩
  rw[t.1];simp only[KT ((g.rel.rel.ms o p u v w).len)]
 exact(aoQ x.m C D B).mono λq z t=>⟨9,t.1,rv g y (by rw[t.2];exact ca _ _) λI _ _ _ _ E=>(aqR E C D B).mono λq P t=>⟨t.1,by rw[t.2];exact ca _ _⟩⟩
theorem asD (g:gT e m c a h d b i l k n f) (y:J e j) (C D:Int):
  O 42 #[Z a,A C,A D] j λq z=>∃r,q=ad (A r)/\Duo e j m c a h d b k n 118 #[Z h,A C,A D] (A r) z:=by
 obtain⟨R,U,W,x,I,_⟩:=(g.ak y).fB;by_cases B:mG k C D
 .obtain⟨o,p,u,v,w,rfl,rfl⟩:=B;have F:=(g.rel.rel.ms o p u v w).len;have X:=g.rel.na.len o p u v;have Y:=g.rel.na.len p o v u;have sd:=(g.rel.rel.ms p o v u (eE w)).len;refine(amG x.m u v w).mono λq z t=> ?_
  refine⟨_,t.1,Ao g y (P':=⟨f.M,Fo f.s o p,DF f.S o p⟩) (.ofM _ I (x.ok.again u v w) x.md t.2) ⟨g.rel.rel.again u v w (by omega),g.rel.na.again u v,g.rel.tK,g.rel.a6.same (by unfold Fo;(repeat' split)<;>rfl) (by unfold DF;(repeat' split)<;>rfl) (by unfold DF;(repeat' split)<;>rfl)⟩ λL N=> ?_⟩;obtain⟨aY,fL,I',kn,E,P,_⟩:=N;refine(apK E o p u v w).mono λq Q t=>⟨?_,.of _ _ P t.2⟩
  rw[t.1];simp only[g.rel.rel.sh o p u v w,KT F,F,show((f.S.ms o p).length=12)=(12<=(f.S.ms o p).length) from propext ⟨λq=>by omega,λq=>by omega⟩]
 exact(aoR x.m C D B).mono λq z t=>⟨9,t.1,rv g y (by rw[t.2];exact ca _ _) λL _ _ _ _ E=>(aqS E C D B).mono λq Q t=>⟨t.1,by rw[t.2];exact ca _ _⟩⟩
theorem asE (g:gT e m c a h d b i l k n f) (y:J e j) (C D:Int):
  O 43 #[Z a,A C,A D] j λq z=>∃r,q=ad (A r)/\Duo e j m c a h d b k n 119 #[Z h,A C,A D] (A r) z:=by
 obtain⟨Q,R,U,x,F,_⟩:=(g.ak y).fB;by_cases B:mG k C D
 .obtain⟨o,p,u,v,w,rfl,rfl⟩:=B;have W:=g.rel.na.len p o v u;have X:=(g.rel.rel.ms p o v u (eE w)).len;refine(amF x.m u v w).mono λq z t=> ?_
  refine⟨_,t.1,Ao g y (P':=⟨f.M,Fm f.s o p,DE f.S o p⟩) (.ofM _ F (x.ok.later u v w) x.md t.2) ⟨g.rel.rel.later u v w,g.rel.na.later u v,g.rel.tK,g.rel.a6.same (by unfold Fm;(repeat' split)<;>rfl) (by unfold DE;(repeat' split)<;>rfl) (by unfold DE;(repeat' split)<;>rfl)⟩ λI L=> ?_⟩;obtain⟨Y,fL,I',kn,E,N,_⟩:=L;refine(apL E o p u v w (g.rel.na.len o p u v)).mono λq P t=>⟨?_,.of _ _ N t.2⟩
  rw[t.1];simp only[g.rel.rel.sh o p u v w,KT ((g.rel.rel.ms o p u v w).len)]
 exact(aoS x.m C D B).mono λq z t=>⟨9,t.1,rv g y (by rw[t.2];exact ca _ _) λI _ _ _ _ E=>(aqT E C D B).mono λq P t=>⟨t.1,by rw[t.2];exact ca _ _⟩⟩
theorem asF (p:gT e m c h k d b i l a n f) (y:J e j) (C D:Int):
  O 120 #[Z h,A C,A D] j λq z=>∃r,q=ad (A r)/\Duo e j m c h k d b a n 121 #[Z k,A C,A D] (A r) z:=by
 obtain⟨R,U,W,x,I,_⟩:=(p.ak y).fB;by_cases B:mG a C D
 .obtain⟨g,o,u,v,w,rfl,rfl⟩:=B;have F:=p.rel.rel.sh g o u v w;have X:=p.rel.na.len g o u v;have Y:=p.rel.na.len o g v u;have sd:=(p.rel.rel.ms o g v u (eE w)).len;have IP:=KT ((p.rel.rel.ms g o u v w).len);refine(aoZ x.m u v w).mono λq z t=> ?_
  refine⟨_,t.1,Ao p y (P':=⟨f.M,if f.s.sh g o=true then f.s else DC f.s g o,if f.S.sh g o=true then f.S else BX f.S g o⟩) (.ofM _ I (by split;exact x.ok;exact x.ok.shut g o) x.md t.2) ⟨by rw[F];split;exact p.rel.rel;exact p.rel.rel.shut u v w,by show ig a (if f.S.sh g o=true then f.S else BX f.S g o);split;exact p.rel.na;exact p.rel.na.shut g o,p.rel.tK,p.rel.a6.same (s':=if f.s.sh g o=true then f.s else DC f.s g o) (S':=if f.S.sh g o=true then f.S else BX f.S g o) (by split <;>rfl) (by split <;>rfl) (by split <;>rfl)⟩ λL N=> ?_⟩;obtain⟨aY,fL,I',kn,E,P,_⟩:=N;refine(apI E g o u v w).mono λq Q t=>⟨?_,.of _ _ P t.2⟩
  rw[t.1];simp only[F]
 exact(aoT x.m C D B).mono λq z t=>⟨9,t.1,rv p y (by rw[t.2];exact ca _ _) λL _ _ _ _ E=>(aqU E C D B).mono λq Q t=>⟨t.1,by rw[t.2];exact ca _ _⟩⟩
theorem asG (o:gT e m c a h d b i l k n f) (u:J e j) (C D:Int):
  O 115 #[Z a,A C,A D] j λg v=>∃p q,g=ad (.tuple #[A p,A q])/\Duo e j m c a h d b k n 116 #[Z h,A C,A D] (.tuple #[A p,A q]) v:=by
 obtain⟨L,M,N,E,P,_⟩:=(o.ak u).fB;by_cases w:mG k C D
 .obtain⟨r,s,x,y,z,rfl,rfl⟩:=w;refine(aoV E.m x y z).mono λg v t=>⟨_,_,t.1,rv o u (by rw[t.2];exact ca _ _) λF _ _ _ _ B=>(apw B r s x y z).mono λg I t=>⟨?_,by rw[t.2];exact ca _ _⟩⟩
  rw[t.1,(o.rel.rel.ms r s x y z).len]
 exact(aoP E.m C D w).mono λg v t=>⟨0,9,t.1,rv o u (by rw[t.2];exact ca _ _) λF _ _ _ _ B=>(aqQ B C D w).mono λg I t=>⟨t.1,by rw[t.2];exact ca _ _⟩⟩
end
section
open Go.RowKit Tryz
attribute [local go_sem ↓] Go.wp_at_zero Go.wp_at_succ
variable {a c i j n:Nat}{b m:World}{d e f:Nat->Prop}{h:Value}{k:List PId}{l:gS}
theorem yZ{f g d e k l m n o:Int}{p:ByteArray}{yes:Bool}(q:b.heap[a]?=some (.cells #[Z i,Z j,h] 135))(r:b.heap[c]?=some (.cells #[A f,A g,A d,A e,A k,A l,A m,.string p,A n,A o,.bool yes] 87)):
  b.cell? (H a)=some (Z i)/\b.cell? (K a 1)=some (Z j)/\b.cell? (K c 2)=some (A d)/\b.cell? (K c 3)=some (A e):=by
 refine⟨?_,?_,?_,?_⟩<;>simp[World.cell?,q,r]
theorem asH (h:lN m i e j) (o:kU) (w:o.aM=13\/o.aM=14\/o.aM=16\/o.aM=17\/o.aM=18\/o.aM=19):
  O 70 #[Z i,.agg #[A o.aM,A o.r,A o.c,A o.d,A o.i1,A o.i2,A o.bJ,.string o.key,A o.a,A o.b,.bool o.yes]] m λf y=>f=ad (.bool true)/\yX m i e (j+1) y:=by
 obtain⟨x,r,z,B,cJ,cU,N,C,P,jS,h⟩:=h;have s:=ag (aV m (.cells #[A o.aM,A o.r,A o.c,A o.d,A o.i1,A o.i2,A o.bJ,.string o.key,A o.a,A o.b,.bool o.yes] 87));have p:=ag (bZ m (.cells #[A o.aM,A o.r,A o.c,A o.d,A o.i1,A o.i2,A o.bJ,.string o.key,A o.a,A o.b,.bool o.yes] 87));have t:=ag (bB h.bb s.o);have dG:=h.lt _ h.gK;rcases w with f|f|f|f|f|f
 case' inl=>have n:=ag (λW (l:J m W)=>asA h l o.c o.d)
 case' inr.inl=>have n:=ag (λW (l:J m W)=>asB h l o.c o.d)
 case' inr.inr.inl=>have n:=ag (λW (l:J m W)=>asC h l o.c o.d)
 case' inr.inr.inr.inl=>have n:=ag (λW (l:J m W)=>asD h l o.c o.d)
 case' inr.inr.inr.inr.inl=>have n:=ag (λW (l:J m W)=>asE h l o.c o.d)
 case' inr.inr.inr.inr.inr=>have n:=ag (λW (l:J m W)=>asF h l o.c o.d)
 all_goals(rw[f]at s p t⊢)
 all_goals
  go_enter func70,ntmps70;go_wp2_with fail
  go_region_held3 (λW=>W.cell? (H i)=some (Z x)/\W.cell? (K i 1)=some (Z r)/\W.cell? (V m 2)=some (A o.c)/\W.cell? (V m 3)=some (A o.d)) (first |exact yZ t.o p.o|exact yZ u.o q.o)
   (first |((first |go_at_call 27|go_at_call 39|go_at_call 41|go_at_call 42|go_at_call 43|go_at_call 120);refine(n.o _ s.o.drew).mono ?_;rintro f D ⟨g,rfl,E,F,hG,I⟩;have u:=ag (E.trans h.bb);have q:=ag ((F m.heap.size (aU p.o) ((show ∀k,m.heap.size<=k->¬e k from λk hk hF=>by have :=h.lt k hF;omega) _ (bW _))).trans p.o)))
  go_wp2_with fail
  go_region_held3 (λW=>W.cell? (H i)=some (Z x)/\W.cell? (K i 1)=some (Z r)/\W.cell? (V m 2)=some (A o.c)/\W.cell? (V m 3)=some (A o.d)) (first |exact yZ u.o q.o|exact yZ L.o M.o)
   (first |((first |go_at_call 113|go_at_call 114|go_at_call 117|go_at_call 118|go_at_call 119|go_at_call 121);refine(I _ (Loc.cL ((gb D)))).mono ?_;rintro f w2 ⟨rfl,⟨Q,R,S,U,v,X,gx⟩,Y⟩;have L:=ag v.bb;have M:=ag ((Y m.heap.size (bW _) (.inl (by simp)) (aU q.o)).trans q.o)))
  go_wp2;go_ret
  exact⟨rfl,Q,⟨x,r,z,B,R,S,N,C,U,by omega,v⟩,X⟩
theorem Rel.drain{N:Nat}{M:Nat->List ay}{c d:Nat}(a:c<N)(b:d<N)(f:c≠d):∀(k:Nat) {s g:bx} {S:bP},Rel N M s S->ed N M s->ig N S->tR N s S->NS N c d k s g->Rel N M g (yU N c d k S)/\ed N M g/\tR N g (yU N c d k S)
 |0,_,_,_,h,ok,_,i,e=>by cases e;exact⟨h,ok,i⟩
 |k+1,s,g,S,h,ok,l,i,⟨o,j,n⟩=>by have m:=l.len d c b a;rw[<-(h.ms d c b a (eE f)).len]at m;exact Rel.drain a b f k (h.Du ok a b f m j) (ok.Du a b f j) (l.XV a b f) (i.Du j) n
theorem asI (g:gT b j d a c h k e f i n l) (y:J b m) (C D:Int):
  O 122 #[Z a,A C,A D] m λo z=>∃r s,o=ad (.tuple #[A r,A s])/\Duo b m j d a c h k i n 123 #[Z c,A C,A D] (.tuple #[A r,A s]) z:=by
 obtain⟨oc,od,jG,x,N,_⟩:=(g.ak y).fB;by_cases B:mG i C D
 .obtain⟨p,q,u,v,w,rfl,rfl⟩:=B;have F:=(g.rel.rel.ms p q u v w).len;have I:=g.rel.rel.sh p q u v w;refine(arn x.m x.ok u v w).mono λo z t=> ?_
  obtain⟨P,Q,R,U⟩:=t;obtain⟨hrel,W,X⟩:=g.rel.rel.drain u v w _ x.ok g.rel.na g.rel.a6 R;refine⟨_,_,P,Ao g y (P':=⟨l.M,Q,_⟩) (.ofM _ N W x.md U) ⟨hrel,XX u v w _ g.rel.na,g.rel.tK,X⟩ λY aP=> ?_⟩;obtain⟨aY,fL,I',kn,E,ah,_⟩:=aP;refine(aqA E g.rel.na p q u v w).mono λo w2 t=>⟨?_,.of _ _ ah (vl:=kn.vl) ?_⟩
  .rw[t.1,I,F]
  have :=t.2;rw[I,F];by_cases L:l.S.sh p q=true
  .rw[bn L]at this⊢;omega
  rw[a7 L]at this⊢;exact this
 exact(aoU x.m C D B).mono λo z t=>⟨0,9,t.1,rv g y (by rw[t.2];exact ca _ _) λY _ _ _ _ E=>(aqV E C D B).mono λo w2 t=>⟨t.1,by rw[t.2];exact ca _ _⟩⟩
theorem asK (h:lN m i e j) (o:kU) (y:o.aM=15\/o.aM=20):
  O 70 #[Z i,.agg #[A o.aM,A o.r,A o.c,A o.d,A o.i1,A o.i2,A o.bJ,.string o.key,A o.a,A o.b,.bool o.yes]] m λf z=>f=ad (.bool true)/\yX m i e (j+1) z:=by
 obtain⟨x,r,B,C,cJ,cU,N,D,P,jS,h⟩:=h;have q:=ag (aV m (.cells #[A o.aM,A o.r,A o.c,A o.d,A o.i1,A o.i2,A o.bJ,.string o.key,A o.a,A o.b,.bool o.yes] 87));have l:=ag (bZ m (.cells #[A o.aM,A o.r,A o.c,A o.d,A o.i1,A o.i2,A o.bJ,.string o.key,A o.a,A o.b,.bool o.yes] 87));have t:=ag (bB h.bb q.o);have dG:=h.lt _ h.gK;rcases y with f|f
 case' inl=>have u:=ag (λW (s:J m W)=>asG h s o.c o.d)
 case' inr=>have u:=ag (λW (s:J m W)=>asI h s o.c o.d)
 all_goals(rw[f]at q l t⊢)
 all_goals
  go_enter func70,ntmps70;go_wp2_with fail
  go_region_held3 (λW=>W.cell? (H i)=some (Z x)/\W.cell? (K i 1)=some (Z r)/\W.cell? (V m 2)=some (A o.c)/\W.cell? (V m 3)=some (A o.d)) (first |exact yZ t.o l.o|exact yZ v.o p.o)
   (first |((first |go_at_call 115|go_at_call 122);refine(u.o _ q.o.drew).mono ?_;rintro f E ⟨n,g,rfl,F,I,hG,L⟩;have v:=ag (F.trans h.bb);have p:=ag ((I m.heap.size (aU l.o) ((show ∀k,m.heap.size<=k->¬e k from λk hk hF=>by have :=h.lt k hF;omega) _ (bW _))).trans l.o)))
  go_wp2_with fail
  go_region_held3 (λW=>W.cell? (H i)=some (Z x)/\W.cell? (K i 1)=some (Z r)/\W.cell? (V m 2)=some (A o.c)/\W.cell? (V m 3)=some (A o.d)) (first |exact yZ v.o p.o|exact yZ M.o Q.o)
   (first |((first |go_at_call 116|go_at_call 123);refine(L _ (Loc.cL ((gb E)))).mono ?_;rintro f w2 ⟨rfl,⟨R,S,U,X,w,Y,gx⟩,iN⟩;have M:=ag w.bb;have Q:=ag ((iN m.heap.size (bW _) (.inl (by simp)) (aU p.o)).trans p.o)))
  go_wp2;go_ret
  exact⟨rfl,R,⟨x,r,B,C,S,U,N,D,X,by omega,w⟩,Y⟩
theorem asL:F2 20:=λw a F b h o c d=>by
 by_cases e:o.aM=15\/o.aM=20
 .exact asK h o e
 exact asH h o (by omega)
theorem asM {S:bP} {x:ef} (h:c3 b c d e f a S x) (g:Int) (j:¬(0<=g/\g<a)):O 124 #[Z c,A g] b λi m=>i=ad (.tuple #[A 0,A 2])/\m=b:=by
 have k:=ag (vd h.cm.bN g);have l:decide ((0:Int)<=g/\g<(a:Int))=false:=by simpa using j
 rw[l]at k;clear h j l;go_enter func124,ntmps124;go_wp2_with fail
 refine k.o.mono ?_;rintro i n ⟨rfl,rfl⟩;go_wp2;go_ret2
 exact⟨rfl,rfl⟩
theorem asN {S:bP} {x:ef} (h:c3 b c d e f a S x) (g:Int) (j:¬(0<=g/\g<a)):O 126 #[Z c,A g] b λi m=>i=ad (.tuple #[A 0,A 2])/\m=b:=by
 have k:=ag (vd h.cm.bN g);have l:decide ((0:Int)<=g/\g<(a:Int))=false:=by simpa using j
 rw[l]at k;clear h j l;go_enter func126,ntmps126;go_wp2_with fail
 refine k.o.mono ?_;rintro i n ⟨rfl,rfl⟩;go_wp2;go_ret2
 exact⟨rfl,rfl⟩
theorem afH {α:Type} {p:α->Bool}:∀(l:List α),(∀x∈l.take (l.takeWhile p).length,p x=true)/\∀c:(l.takeWhile p).length<l.length,p l[(l.takeWhile p).length]=false
 |[]=>⟨λx d=>by simp at d,λh=>by simp at h⟩
 |x::l=>by
  obtain⟨f,g⟩:=afH (p:=p) l;by_cases e:p x=true
  .have a:(x::l).takeWhile p=x::l.takeWhile p:=by rw[Zc,bn e]
   simp only[a,iq,af8,OD];exact⟨λy b=>(ft.1 b).elim (λi=>i▸e) (f y),λc=>g (by omega)⟩
  have a:(x::l).takeWhile p=[]:=by rw[Zc,a7 e]
  simp only[a,sa,Ga,YD];exact⟨λy b=>(by cases b),λ_=>by simpa using e⟩
theorem afI{f:Nat->Nat}:∀n,(∀i,i<n->f i<=60)->((List.range n).map f).sum<=60*n
 |0,_=>by simp
 |n+1,h=>by
  have a:=afI n λi b=>h i (by omega)
  have c:=h n (by omega);rw[mM,ga,OL];simp only[ip,uV,K9,agm,r9];omega
theorem B9.len{N P b q}(h:B9 N P b q)(e:N<=4)(c:∀i,i<N->b i<=60):q.length<=240:=by
 rw[<-Sh (N:=N) (l:=q) λf d=>by obtain⟨i,a,rfl⟩:=mm.1 d;exact(h.at' i a).1]
 have :=afI (f:=iT q) N λi a=>by rw[h.all i a];exact c i a
 omega
theorem asO (o:gT b j d c i h k e f a n l) (E:J b m) (C:Int):
  O 21 #[Z c,A C] m λr F=>∃u v,r=ad (.tuple #[A u,A v])/\Duo b m j d c i h k a n 124 #[Z i,A C] (.tuple #[A u,A v]) F:=by
 obtain⟨oc,od,jG,B,R,_⟩:=(o.ak E).fB;by_cases L:0<=C/\C<a
 .obtain⟨g,rfl⟩:∃g:Nat,C=g:=⟨C.toNat,by omega⟩;have y:g<a:=by omega
  refine(aoL B y).mono λr F x=> ?_
  obtain⟨st,U,rfl,W⟩:=x;obtain⟨X,Y⟩:=afH (p:=λt:Nat×Nat=>(List.range a).all (mJ l.S g t.1 t.2)) (iU (l.s.ar g));have N:=o.rel.rel.ard B.ok y;obtain⟨t1,t2,t3⟩:=o.rel.rel.trim B.ok o.rel.a6 y U (agc _).length_le X Y;have z:=o.rel.na;refine⟨_,_,rfl,Ao o E (P':=⟨l.M,_,p0 l.S g _⟩) (.of _ R W) ⟨t2,⟨z.en,z.iR,z.len,z.ai,z.qU⟩,o.rel.tK,t3⟩ λb5 aP=> ?_⟩;obtain⟨aY,fL,I',kn,I,ah,_⟩:=aP;have P:∀q,q<a->l.S.ai g q<=60:=λq D=>cd (z.ai g q y D) (z.qU q D)
  refine(aq3 I g y N (N.len B.m.hN P) λq D=>cd (o.rel.rel.uO g g q y y D) (P q D)).mono λr w2 x=> ?_
  obtain⟨w,hk,g1,g2,rfl,Q⟩:=x;have ua:=Sp (p:=λt:Nat×Nat=>(List.range a).all (mJ l.S g t.1 t.2)) hk g1 g2;rw[<-ua]at Q⊢;exact⟨by rw[t1],.of _ _ ah Q⟩
 exact(aod B.m.j6 C L).mono λr F x=>⟨0,2,x.1,rv o E x.2 λb5 _ _ _ _ I=>(asM I C L).mono λr w2 x=>⟨x.1,by rw[x.2];exact ca _ _⟩⟩
theorem asP (o:gT b j d c i h k e f a n l) (v:J b m) (C:Int):
  O 125 #[Z c,A C] m λp w=>∃q r,p=ad (.tuple #[A q,A r])/\Duo b m j d c i h k a n 126 #[Z i,A C] (.tuple #[A q,A r]) w:=by
 obtain⟨F,I,L,x,M,_⟩:=(o.ak v).fB;by_cases z:0<=C/\C<a
 .obtain⟨g,rfl⟩:∃g:Nat,C=g:=⟨C.toNat,by omega⟩;have u:g<a:=by omega
  refine(aoW x.m g u).mono λp w t=>⟨_,_,t.1,rv o v (by rw[t.2];exact ca _ _) λB _ _ _ _ y=>(aqW y g u λs D=>o.rel.rel.uO g g s u u D).mono λp E t=>⟨?_,t.2⟩⟩
  rw[t.1,o.rel.rel.kept x.ok o.rel.a6 u]
 exact(aoe x.m.j6 C z).mono λp w t=>⟨0,2,t.1,rv o v t.2 λB _ _ _ _ y=>(asN y C z).mono λp E t=>⟨t.1,by rw[t.2];exact ca _ _⟩⟩
theorem asQ (h:lN m i e j) (o:kU) (E:o.aM=21\/o.aM=22):
  O 70 #[Z i,.agg #[A o.aM,A o.r,A o.c,A o.d,A o.i1,A o.i2,A o.bJ,.string o.key,A o.a,A o.b,.bool o.yes]] m λf F=>f=ad (.bool true)/\yX m i e (j+1) F:=by
 obtain⟨x,r,I,L,cJ,cU,N,M,P,jS,h⟩:=h;have q:=ag (aV m (.cells #[A o.aM,A o.r,A o.c,A o.d,A o.i1,A o.i2,A o.bJ,.string o.key,A o.a,A o.b,.bool o.yes] 87));have l:=ag (bZ m (.cells #[A o.aM,A o.r,A o.c,A o.d,A o.i1,A o.i2,A o.bJ,.string o.key,A o.a,A o.b,.bool o.yes] 87));have u:=ag (bB h.bb q.o);have Q:=ag (show ∀k,m.heap.size<=k->¬e k from λk hk hF=>by have :=h.lt k hF;omega);have dG:=h.lt _ h.gK;have R:=ag h.bb;rcases E with f|f
 case' inl=>have v:=ag (λW (s:J m W)=>asO h s o.c)
 case' inr=>have v:=ag (λW (s:J m W)=>asP h s o.c)
 all_goals(rw[f]at q l u⊢;clear h f)
 all_goals
  go_enter func70,ntmps70;go_wp2_with fail
  go_region_held3 (λW=>W.cell? (H i)=some (Z x)/\W.cell? (K i 1)=some (Z r)/\W.cell? (V m 2)=some (A o.c)/\W.cell? (V m 3)=some (A o.d)) (first |exact yZ u.o l.o|exact yZ w.o p.o)
   (first |((first |go_at_call 21|go_at_call 125);refine(v.o _ q.o.drew).mono ?_;rintro f S ⟨n,g,rfl,y,z,hG,B⟩;have w:=ag (y.trans R.o);have p:=ag ((z m.heap.size (aU l.o) (Q.o _ (bW _))).trans l.o);have U:=ag B;clear y z B))
  go_wp2_with fail
  go_region_held3 (λW=>W.cell? (H i)=some (Z x)/\W.cell? (K i 1)=some (Z r)/\W.cell? (V m 2)=some (A o.c)/\W.cell? (V m 3)=some (A o.d)) (first |exact yZ w.o p.o|exact yZ X.o Y.o)
   (first |((first |go_at_call 124|go_at_call 126);refine(U.o _ (Loc.cL ((gb S)))).mono ?_;rintro f w2 ⟨rfl,⟨aY,fC,hf,P',t,C,gx⟩,D⟩;have X:=ag t.bb;have Y:=ag ((D m.heap.size (bW _) (.inl (by simp)) (aU p.o)).trans p.o);have vx:=ag t;have Bs:=ag C;clear t C D gx))
  go_wp2;go_ret
  exact⟨rfl,aY,⟨x,r,I,L,fC,hf,N,M,P',by omega,vx.o⟩,Bs.o⟩
theorem asR:F2 22:=λw a F b h o c d=>by
 by_cases e:o.aM=21\/o.aM=22
 .exact asQ h o e
 exact asL w a F b h o c (by omega)
end
