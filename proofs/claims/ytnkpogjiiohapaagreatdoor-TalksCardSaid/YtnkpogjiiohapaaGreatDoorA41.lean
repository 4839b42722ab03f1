/- Our own text. -/
import Derived.Deep.Slices
import Derived.ReadsIn
import Derived.Deep.DeepCutAuto
import Derived.Test.YtnkpogjiiohapaaGreatDoorA37
import Derived.Test.YtnkpogjiiohapaaGreatDoorA40
set_option linter.unusedSimpArgs false
set_option linter.unusedVariables false
set_option maxRecDepth 1000000
set_option maxHeartbeats 8000000
namespace Go.Proofs.YtnkpogjiiohapaaGreatDoor
section
open Go.RowKit Go.ChangeShapes Go.WideShapes Go.Deep Tryz
variable {a i:Nat->Bool}{b:Bool}{d:Nat}{e j:World}{f:Program}{h:TypeId}
theorem SM {d:Type} {l:TypeId×Value->d} {base:Nat} (g:f.underlying h=some (.int .i64)\/f.underlying h=some .string\/f.underlying h=some .bool) (n:Nat) (k:List Value):DataW.trod l f e base a b n h k=DataW.trod l f j base i b n h k:=by
 cases n with
 |zero=>rfl
 |succ n=>
  rcases g with g|g|g<;>unfold DataW.trod<;>rw[g]<;>
  ·match k with
   |[]=>rfl
   |[c]=>cases c<;>rfl
   |c::_::_=>cases c<;>rfl
theorem aaT {d:Type} {l:TypeId×Value->d} {base:Nat} {m:Array Field} (o:f.underlying h=some (.struct m)) (p:∀c∈m.toList,∀n k,DataW.trod l f e base a b n c.type k=DataW.trod l f j base i b n c.type k) (n:Nat) (k:List Value):DataW.trod l f e base a b n h k=DataW.trod l f j base i b n h k:=by
 cases n with
 |zero=>rfl
 |succ n=>
  unfold DataW.trod;rw[o];have g:(m.toList.mapM fun c=>DataW.trod l f e base a b n c.type ((k.drop c.offset).take (f.cellsOf c.type)))=m.toList.mapM fun c=>DataW.trod l f j base i b n c.type ((k.drop c.offset).take (f.cellsOf c.type)):=mapM_congr_mem fun c q=>p c q _ _
  split <;>simp_all
theorem Ai {c:Type} {l:TypeId×Value->c} {base:Nat} {i:List Value} {x:DataW c×List MemPlace} (m:f.underlying h=some (.int .i64)) (g:DataW.trod l f e base a b d h i=some x):∃k,i=[A k]/\ka k:=by
 obtain⟨k,n,_,j⟩:=DataW.trod_int m g;refine⟨k,n,?_⟩;simp[Lit.wf]at j;exact j
theorem JG:prog.cellsOf 87=11:=by kernel_rfl
theorem alP:prog.cellsOf 36=2:=by kernel_rfl
theorem B5:prog.cellsOf 3=1:=by kernel_rfl
theorem alQ:prog.cellsOf 9=1:=by kernel_rfl
theorem alR:prog.cellsOf 4=1:=by kernel_rfl
theorem alS {c:Type} {e:TypeId×Value->c} {w:World} {base:Nat} {g:List Value} {x:DataW c×List MemPlace} (h:DataW.trod e prog w base a b d 87 g=some x):
  ∃o:jD,g=(Jq o).toList/\pV o:=by
 obtain⟨B,m,rfl,rfl,i,C,f⟩:=DataW.trod_struct underlying87 h;rw[JG]at i
 match B,C with
 |[D,E,F,I,L,M,N,P,Q,R],_=>
  match g,i with
  |[S,U,W,X,dC,Y,q7,aox,aoy,aoz,c10],_=>
   have f0:DataW.trod e prog w base a b m 3 [S]=some D:=by simpa[B5]using f 0 _ rfl
   have f1:DataW.trod e prog w base a b m 3 [U]=some E:=by simpa[B5]using f 1 _ rfl
   have f2:DataW.trod e prog w base a b m 3 [W]=some F:=by simpa[B5]using f 2 _ rfl
   have f3:DataW.trod e prog w base a b m 3 [X]=some I:=by simpa[B5]using f 3 _ rfl
   have f4:DataW.trod e prog w base a b m 36 [dC,Y]=some L:=by simpa[alP]using f 4 _ rfl
   have f5:DataW.trod e prog w base a b m 3 [q7]=some M:=by simpa[B5]using f 5 _ rfl
   have f6:DataW.trod e prog w base a b m 9 [aox]=some N:=by simpa[alQ]using f 6 _ rfl
   have f7:DataW.trod e prog w base a b m 3 [aoy]=some P:=by simpa[B5]using f 7 _ rfl
   have f8:DataW.trod e prog w base a b m 3 [aoz]=some Q:=by simpa[B5]using f 8 _ rfl
   have f9:DataW.trod e prog w base a b m 4 [c10]=some R:=by simpa[alR]using f 9 _ rfl
   obtain⟨dG,j,h0⟩:=Ai underlying3 f0;obtain⟨ee,k,h1⟩:=Ai underlying3 f1;obtain⟨ew,l,h2⟩:=Ai underlying3 f2;obtain⟨hU,n,ak⟩:=Ai underlying3 f3;obtain⟨z0,z1,m2,_,_,p,q⟩:=trod_struct2 underlying36 f4;simp only[B5,List.drop,List.take]at p q;obtain⟨vt,r,aL⟩:=Ai underlying3 p;obtain⟨wH,s,bW⟩:=Ai underlying3 q;obtain⟨yo,t,eR⟩:=Ai underlying3 f5;obtain⟨key,u,_,fF⟩:=DataW.trod_string underlying9 f6;obtain⟨Ae,v,tV⟩:=Ai underlying3 f7;obtain⟨Af,y,th⟩:=Ai underlying3 f8;obtain⟨yes,z,_⟩:=DataW.trod_bool underlying4 f9;simp only[aq2,and_true]at j k l n r s t u v y z;subst j k l n r s t u v y z;exact⟨⟨dG,ee,ew,hU,vt,wH,yo,key,Ae,Af,yes⟩,rfl,⟨h1,eR,tV,th,fF⟩⟩
theorem alT {b:Type} {enc:TypeId×Value->b} {w:World} {base:Nat} {held:Bool} (d:World) (e:Nat->Bool) (n:Nat) (c:List Value):DataW.trod enc prog w base a held n 87 c=DataW.trod enc prog d base e held n 87 c:=by
 have h:∀n c,DataW.trod enc prog w base a held n 3 c=DataW.trod enc prog d base e held n 3 c:=SM (.inl underlying3);have i:∀n c,DataW.trod enc prog w base a held n 9 c=DataW.trod enc prog d base e held n 9 c:=SM (.inr (.inl underlying9));have j:∀n c,DataW.trod enc prog w base a held n 4 c=DataW.trod enc prog d base e held n 4 c:=SM (.inr (.inr underlying4));have k:∀n c,DataW.trod enc prog w base a held n 36 c=DataW.trod enc prog d base e held n 36 c:=aaT underlying36 fun f g=>by
  simp only[ao3,aq9,or_false]at g;rcases g with rfl|rfl<;>exact h
 refine aaT underlying87 (fun f g=> ?_) n c;simp only[ao3,aq9,or_false]at g;rcases g with rfl|rfl|rfl|rfl|rfl|rfl|rfl|rfl|rfl|rfl<;>first |exact h|exact i|exact j|exact k
theorem alU {α:Type} (a:α) {p:Nat->α->Prop} (h:∀i,i<d->∃x,p i x):∃f:Nat->α,∀i,i<d->p i (f i):=by
 have b:∀i,∃x,i<d->p i x:=fun i=>by
  by_cases c:i<d
  ·obtain⟨x,e⟩:=h i c
   exact⟨x,fun _=>e⟩
  ·exact⟨a,fun g=>absurd g c⟩
 exact⟨fun i=>Classical.choose (b i),fun i=>Classical.choose_spec (b i)⟩
def Gq (w:World) (c:Option Addr) (a:List jD):Prop:=∀i (d:i<a.length),∃g b,c=some (K g b)/\∀j v,(Jq a[i])[j]?=some v->w.cell? (K g (b+i*11+j))=some v
theorem Gq.af{w a b}{w':World}(h:Gq w a b)(e:Below d w w')(f:w.heap.size<=d):Gq w' a b:=fun i k=>by
 obtain⟨g,off,l,m⟩:=h i k;refine⟨g,off,l,fun j v n=> ?_⟩;have c:=m j v n;have o:=ao4 w _ c;rw[e.cell (aoV o f)];exact c
theorem alV {f:Type} {enc:TypeId×Value->f} {v:Value} {d:DataW f} {z:List MemPlace} (h:DataW.Trod enc prog e 0 (fun _=>true) true 22 v d z) (S:∀p∈z,p.block<e.heap.size) (B:∃a n c,v=.slice a n c):
  ∃(L:Option Addr) (r:List jD) (cap:Nat),v=.slice L r.length cap/\(∀i (k:i<r.length),pV r[i])/\Gq e L r/\(d=.nil/\r=[]\/∃elems spare,d=.slice elems spare/\elems.length=r.length)/\r.length<=9223372036854775807/\
   ∀l,J e l->∀q:Nat->Bool,(∀p∈z,q p.block=true)->DataW.Trod enc prog l 0 q true 22 v d z:=by
 obtain⟨fuel,h⟩:=h;obtain⟨bX,M,bQ,rfl⟩:=B;rcases open_slice underlying22 h with⟨s,t⟩|⟨a,len,cap,m,n,D,u,s,ab,U,W,N,t,P⟩
 ·simp[Value.cells]at s
  obtain⟨rfl,rfl,rfl⟩:=s;simp only[aqC]at t;obtain⟨rfl,rfl⟩:=t;refine⟨none,[],0,rfl,(fun i k=>(by cases k)),(fun i k=>(by cases k)),.inl ⟨rfl,rfl⟩,(by simp),(fun l _ q _=>⟨1,?_⟩)⟩;simp[Value.cells,DataW.trod,underlying22]
 ·simp[Value.cells]at s
  obtain⟨rfl,rfl,rfl⟩:=s;simp only[if_true]at N;subst N;simp only[aqC]at t;obtain⟨rfl,rfl⟩:=t;rw[JG]at P;obtain⟨b,x⟩:=alU (α:=jD) ⟨0,0,0,0,0,0,0,⟨#[]⟩,0,0,false⟩ (p:=fun i o=>pV o/\e.cells? 0 (a.add (i*11)) 11=some (Jq o).toList/\DataW.trod enc prog e 0 (fun _=>true) true n 87 (Jq o).toList=some (D i,u i)) (fun i k=>by
   obtain⟨F,C,y⟩:=P i k;obtain⟨o,rfl,X⟩:=alS y;exact⟨o,X,C,y⟩)
  unfold maxLen at W;refine⟨some a,(List.range M).map b,m,by simp,fun i k=> ?_,fun i k=> ?_,.inr ⟨_,_,rfl,by simp⟩,by simp;omega,fun l Y q rW=> ?_⟩
  ·simp at k⊢
   exact(x i (by omega)).1
  ·simp at k
   have C:=(World.cells?_some (x i (by omega)).2.1).2.2;have E:a.spot=none:=by
    by_cases I:i=0
    ·subst I
     have :=World.cell?_spot ((C 0 (by omega)).trans (show _=some (A (b 0).kind) from rfl));simpa[Addr.add]using this
    ·have :=World.cell?_spot ((World.cells?_some (x 0 (by omega)).2.1).2.2 0 (by omega)|>.trans (show _=some (A (b 0).kind) from rfl))
     simpa[Addr.add]using this
   obtain⟨g,off,spot⟩:=a;subst E;refine⟨g,off,rfl,fun j v B=> ?_⟩;have ar:j<11:=by
    have :=(ao1.1 B).1;simpa[Jq]using this
   have y:=C j ar;rw[add_add,add_plain,<-Nat.add_assoc]at y;rw[y];simpa using B
  ·have Q:∀i,i<m->∃F n,l.cells? 0 (a.add (i*prog.cellsOf 87)) (prog.cellsOf 87)=some F/\DataW.trod enc prog l 0 q true n 87 F=some (D i,u i):=fun i k=>by
    refine⟨_,n,World.cells?_carry (w:=e) (by rw[JG];exact(x i k).2.1) fun p R=>Y.same ?_,(alT e (fun _=>true) n _).trans (x i k).2.2⟩;have B9:p.block=a.block:=by
     simp only[MemPlace.row,aoX]at R;obtain⟨j,_,rfl⟩:=R;simp[MemPlace.block,Addr.add];split <;>rfl
    rw[B9];refine S (.cell a.block (a.off+0)) (apR _ ?_);simp only[MemPlace.row,aoX,apQ];exact⟨0,by rw[JG];omega,rfl⟩
   by_cases I:m=0
   ·subst I
    obtain rfl:M=0:=by omega
    cases E:q a.block with
    |false=>
     have :=shut_slice (enc:=enc) (w:=l) (held:=true) (a:=a) (spare:=q) (base:=0) underlying22 (aoR _) (aoP 0) (by unfold maxLen;omega) E D u (fun i k=>by omega);simpa using this
    |true=>exact shut_slice_whole (enc:=enc) (w:=l) (held:=true) (a:=a) (spare:=q) (base:=0) underlying22 (aoR _) (aoP 0) (by unfold maxLen;omega) E D u Q
   ·refine shut_slice_whole (enc:=enc) (w:=l) (held:=true) (a:=a) (spare:=q) (base:=0) underlying22 (aoR _) U (by unfold maxLen;omega) (rW (.cell a.block (a.off+0)) (apR _ ?_)) D u Q
    simp only[MemPlace.row,aoX,apQ];exact⟨0,by rw[JG];omega,rfl⟩
end
section
open Go.RowKit Tryz
attribute [local go_sem ↓] Go.wp_at_zero Go.wp_at_succ
variable {a e f:World}{b d:Nat}
theorem alW:jF e.heap.size e.heap.size (.slice none 0 0) (.slice none 0 0) (.slice none 0 0) (.slice none 0 0) [] [] [] [] (fun _ _=>False) (fun k=>k=e.heap.size) 0 (e.alloc (.cells #[.slice none 0 0,.slice none 0 0,.slice none 0 0,.slice none 0 0] 84)) where
 y:=bL e _
 bE:=⟨rfl,.inl ⟨rfl,rfl⟩⟩
 a:=⟨rfl,.inl ⟨rfl,rfl⟩⟩
 b:=⟨rfl,.inl ⟨rfl,rfl⟩⟩
 c:=⟨rfl,.inl ⟨rfl,rfl⟩⟩
 fs:=fun i d=>by cases d
 jy:=fun i _ _ d=>by cases d
 pM:=fun i _ d=>by cases d
 cd:=fun i _ d=>by cases d
 aY:=fun k f=>by subst f;simp
 l8:=rfl
 se:=fun k f=>by cases f
 cx:=fun k f=>by cases f
 sf:=fun k f=>by cases f
 rc:=fun k f=>by cases f
 wD:=fun i d=>by cases d
 B4:=fun i d=>by cases d
 gN:=fun i d=>by cases d
 vB:=aoP _
 ox:=aoP _
 qt:=aoP _
 oy:=aoP _
 bs:=by simp
theorem jc.grow{base}(h:jc base b d a e)(c:J e f):jc base b d a f:=by
 obtain⟨i,j,k,l,m,n,o,p,q,R,g,r⟩:=h;exact⟨i,j,k,l,m,n,o,p,q,R,g.below c,r.trans (c.mono g.bs)⟩
theorem jc.more{base gy a w W}{b:Nat}(h:jc base gy a w W)(c:a<=b):jc base gy b w W:=by
 obtain⟨d,e,f,g,i,j,k,l,m,R,n,o⟩:=h;exact⟨d,e,f,g,i,j,k,l,m,R,n.more c,o⟩
theorem jc.after{base:Nat}(h:Below base a e)(c:jc base b d e f):jc base b d a f:=by
 obtain⟨g,i,j,k,l,m,n,o,p,R,q,r⟩:=c;exact⟨g,i,j,k,l,m,n,o,p,R,q,h.trans r⟩
theorem jc.whole{base j}(h:jc base d j f e)(l:j<2000000000000):O 36 #[.pointer (some (K d 1))] e fun g k=>g=.returned (.bool true)/\J e k:=by
 obtain⟨m,n,o,p,q,r,s,t,u,R,i,v⟩:=h;have :=i.ox;have :=i.qt;have :=i.oy;exact akU i.y (by omega) (by omega) (by omega) i.a i.b i.c i.wD.mD i.B4.mD i.gN.mD
theorem jc.step{base i j w f}(h:jc base i j w e)(m:base=w.heap.size)(n:Pow w)(p:j<2000000000000)(o:jD)(q:pV o)(s:Ej f)(t:f<=22)(u:1<=o.kind/\o.kind<=f):O 35 #[Z i,.agg #[A o.kind,A o.r,A o.c,A o.d,A o.i1,A o.i2,A o.made,.string o.key,A o.a,A o.b,.bool o.yes]] e fun g w'=>g=.returned (.bool true)/\jc base i (j+1) w w':=by
 obtain⟨x,y,z,B,C,D,E,F,I,R,v,k⟩:=h;refine(alO v p o q (n.af (m▸k)) s t u).mono fun g w' l=>⟨l.1,l.2.after k⟩
theorem alX:pV ⟨1,0,0,0,0,0,0,⟨#[]⟩,3,4,false⟩:=⟨⟨by decide,by decide⟩,⟨by decide,by decide⟩,⟨by decide,by decide⟩,⟨by decide,by decide⟩,by show(0:Nat)<=maxLen;exact aoR _⟩
theorem alY:pV ⟨3,0,0,0,0,0,0,⟨#[108]⟩,0,0,true⟩:=⟨⟨by decide,by decide⟩,⟨by decide,by decide⟩,⟨by decide,by decide⟩,⟨by decide,by decide⟩,by show(1:Nat)<=maxLen;unfold maxLen;omega⟩
theorem alZ{B d c}{cap gk:Nat}(C:Gq a B d)(D:∀i (hi:i<d.length),pV d[i])(hn:d.length<=1500000000000){ks:List Int}(E:Ej c)(r:3<=c/\c<=22)(F:∀k∈ks,1<=k/\k<=c)(hr:ks.length<=22)(I:∀(q:Nat) (ao:q<ks.length),a.cell? (K gk q)=some (A ks[q]))(L:Pow a):
  O 13 #[.slice B d.length cap,.slice (some (H gk)) ks.length ks.length] a fun e w'=>e=.returned (.bool true)/\J a w':=by
 have hT:=aa C;have kO:=aa D;have M:=aa I;have AB:=aa F;have s:=aa E;have t:=aa L;clear C D I L F E;have N:=aa (show jc a.heap.size a.heap.size 0 a (a.alloc (.cells #[.slice none 0 0,.slice none 0 0,.slice none 0 0,.slice none 0 0] 84)) from⟨_,_,_,_,_,_,_,_,_,_,alW,(aoQ a.heap.size a).alloc (aoP _) _⟩);have P:=aa (N.o.step rfl t.o (by omega) ⟨1,0,0,0,0,0,0,⟨#[]⟩,3,4,false⟩ alX s.o r.2 ⟨by decide,by show(1:Int)<=c;omega⟩);have Q:=aa (fun W (h:jc a.heap.size a.heap.size 1 a W)=>h.step rfl t.o (by omega) ⟨3,0,0,0,0,0,0,⟨#[108]⟩,0,0,true⟩ alY s.o r.2 ⟨by decide,by show(3:Int)<=c;omega⟩);go_enter func13,ntmps13;go_wp2_with fail
 refine P.o.mono ?_;rintro e w1 ⟨rfl,n⟩;have R:=aa n;clear n P N;go_wp2_with fail
 refine(Q.o _ R.o).mono ?_;rintro e w2 ⟨rfl,S⟩;have iQ:=aa S;clear S Q R;go_wp2;go_loopw [6,7] (fun ok i wr=>ok=.bool true/\∃p:Nat,p<=d.length/\i=A p/\jc a.heap.size a.heap.size (p+2) a wr) (fun _ i _=>d.length-(intOf i).toNat)
 case atStart=>exact⟨rfl,0,aoR _,rfl,iQ.o⟩
 case round=>
  obtain⟨rfl,p,ag,rfl,U⟩:=hrel;have X:=aa U;clear U;by_cases Y:p<d.length
  ·obtain⟨g,off,rfl,pD⟩:=hT.o p Y
   have l:=aa pD;clear pD;have jm:(0:Int)<=(p:Int):=ao0 _;have n:(p:Int)<(d.length:Int):=by omega
   have v:=l.o 0 _ rfl;simp only[apL]at v;have HK0:=aa v;clear v;obtain⟨w,rZ⟩:∃w,w=wr:=⟨_,rfl⟩;subst rZ;go_wp2;go_loopw [8,9] (fun u j wr=>∃(b:Bool) (q:Nat),q<=ks.length/\u=.bool b/\j=A q/\(b=true->1<=d[p].kind/\d[p].kind<=c)/\J w wr) (fun _ j _=>ks.length-(intOf j).toNat)
   case atStart=>exact⟨false,0,aoR _,rfl,rfl,fun h=>(by cases h),aoQ _ _⟩
   case round=>
    obtain⟨b,q,ao,rfl,rfl,m,aZ⟩:=hrel;have x:=aa aZ;clear aZ;have CR:=aa m;clear m;have y:=aa (X.o.grow x.o);have f:=aa (show J a wr by obtain⟨_,_,_,_,_,_,_,_,_,_,_,m⟩:=y.o;exact m);by_cases z:q<ks.length
    ·have ng:(0:Int)<=(q:Int):=ao0 _
     have rI:(q:Int)<(ks.length:Int):=by omega
     have a6:=af f.o (M.o q z);have bc:=af f.o HK0.o;have c1d:=af f.o.drew (M.o q z);cases b with
     |true=>
      go_wp2;go_region
      all_goals(go_wp2;go_roundw)
      case rel=>exact⟨true,q+1,by omega,rfl,by go_num,fun _=>CR.o trivial,x.o.drew⟩
      case measure=>simp[intOf];omega
     |false=>
      have HKQ:=aa (AB.o ks[q] (aoY z));generalize ks[q]=an6 at *;go_wp2;go_region_held3 (fun W=>W.cell? (K g (off+p*11))=some (A d[p].kind)/\W.cell? (K gk q)=some (A an6)) (first |exact⟨bc,a6⟩|exact⟨af f.o.drew HK0.o,c1d⟩) (fail)
      go_wp2;go_roundw
      case rel=>exact⟨d[p].kind==an6,q+1,by omega,rfl,by go_num,fun h=>by rw[beq_iff_eq]at h;rw[h];exact HKQ.o,x.o.drew⟩
      case measure=>simp[intOf];omega
    ·have rI:¬((q:Int)<(ks.length:Int)):=by omega
     obtain rfl:q=ks.length:=by omega
     cases b with
     |false=>
      go_wp2;go_roundw
      case rel=>exact⟨rfl,p+1,by omega,by go_num,y.o.more (by omega)⟩
      case measure=>simp[intOf];omega
     |true=>
      have di:=CR.o rfl;have oQ:=aa (y.o.step rfl t.o (by omega) d[p] (kO.o p Y) s.o r.2 di);have d0:=af f.o (l.o 0 _ rfl);have d1:=af f.o (l.o 1 _ rfl);have d2:=af f.o (l.o 2 _ rfl);have d3:=af f.o (l.o 3 _ rfl);have d4:=af f.o (l.o 4 _ rfl);have d5:=af f.o (l.o 5 _ rfl);have d6:=af f.o (l.o 6 _ rfl);have d7:=af f.o (l.o 7 _ rfl);have d8:=af f.o (l.o 8 _ rfl);have d9:=af f.o (l.o 9 _ rfl);have d10:=af f.o (l.o 10 _ rfl);simp only[apL]at d0;go_wp2_with fail
      refine oQ.o.mono ?_;rintro e w3 ⟨rfl,nF⟩;have hY:=aa nF;clear nF;have HWH:=aa (hY.o.whole (by omega));go_wp2_with fail
      refine HWH.o.mono ?_;rintro e w4 ⟨rfl,fC⟩;have fw:=aa fC;clear fC;go_wp2;go_roundw
      case rel=>exact⟨rfl,p+1,by omega,by go_num,(hY.o.grow fw.o).more (by omega)⟩
      case measure=>simp[intOf];omega
  ·have n:¬((p:Int)<(d.length:Int)):=by omega
   go_wp2;go_ret
   obtain⟨_,_,_,_,_,_,_,_,_,_,_,m⟩:=X.o;exact⟨rfl,m⟩
end
section
open Go.RowKit Tryz
variable {a:List PId}{b i l n q:Nat}{d j m:Nat->Prop}{e:Value}{f k:World}{h:gW}
theorem aaV {α β:Type} {l:List α} {m:List β} (h:l.length=m.length):l=[]↔m=[]:=by
 rw[<-List.length_eq_zero_iff,<-List.length_eq_zero_iff,h]
theorem al0(g:gX f n d i l e a j m b q h)(y:J f k)(C D:Int):
  O 27 #[Z i,A C,A D] k fun p z=>∃r,p=.returned (A r)/\Duo f k n d i l e a b q 113 #[Z l,A C,A D] (A r) z:=by
 obtain⟨W,X,Y,x,I,_⟩:=(g.af y).fs;by_cases B:vu b C D
 ·obtain⟨c,o,u,v,w,rfl,rfl⟩:=B
  have F:=(g.rel.rel.ms c o u v w).len;have L:=g.rel.rel.sh c o u v w;have ou:=g.rel.BX.len c o u v;have II:=g.rel.BX.len o c v u;have tC:=(g.rel.rel.ms o c v u (ao5 w)).len;have N:=aaV F;refine(ahq x.m u v w).mono fun p z t=> ?_
  refine⟨_,t.1,Jp g y (P':=⟨h.M,DK b h.s c o,DU b h.S c o⟩) (.ofM _ I (x.ok.ask u v w) x.md t.2) ⟨g.rel.rel.ask u v w (by omega),g.rel.BX.ask u v,g.rel.nice⟩ fun P Q=> ?_⟩;obtain⟨aS,gd,I',k0,E,R,_⟩:=Q;refine(ajp E c o u v w).mono fun p U t=>⟨?_,.of _ _ R t.2⟩
  rw[t.1];simp only[L,N,F,show((h.S.ms c o).length=12)=(12<=(h.S.ms c o).length) from propext ⟨fun p=>by omega,fun p=>by omega⟩]
 ·exact(aiW x.m C D B).mono fun p z t=>⟨9,t.1,wW g y (by rw[t.2];exact aoQ _ _) fun P _ _ _ _ E=>(akv E C D B).mono fun p U t=>⟨t.1,by rw[t.2];exact aoQ _ _⟩⟩
theorem al1(g:gX f n d i l e a j m b q h)(x:J f k)(C D:Int):
  O 39 #[Z i,A C,A D] k fun p y=>∃r,p=.returned (A r)/\Duo f k n d i l e a b q 114 #[Z l,A C,A D] (A r) y:=by
 obtain⟨Y,qE,j4,w,F,_⟩:=(g.af x).fs;by_cases z:vu b C D
 ·obtain⟨c,o,t,u,v,rfl,rfl⟩:=z
  have I:=(g.rel.rel.ms c o t u v).len;have gI:=g.rel.rel.sh c o t u v;have ou:=g.rel.BX.len c o t u;have II:=g.rel.BX.len o c u t;have tC:=(g.rel.rel.ms o c u t (ao5 v)).len;have L:=aaV I;refine(ahM w.m w.ok t u v).mono fun p y s=> ?_
  obtain⟨N,P,E,Q⟩:=s;replace s:=And.intro N Q;refine⟨_,s.1,Jp g x (P':=⟨h.M,P,vw b h.S c o⟩) (.ofM _ F (w.ok.QT t u v E) w.md s.2) ⟨g.rel.rel.QT w.ok t u v (by omega) E,g.rel.BX.akg t u v,g.rel.nice⟩ fun R U=> ?_⟩;obtain⟨aS,gd,I',k0,B,W,_⟩:=U;refine(akh B g.rel.BX c o t u v).mono fun p X s=>⟨?_,.of _ _ W s.2⟩
  rw[s.1];simp only[L]
 ·exact(aiX w.m C D z).mono fun p y s=>⟨9,s.1,wW g x (by rw[s.2];exact aoQ _ _) fun R _ _ _ _ B=>(akw B C D z).mono fun p X s=>⟨s.1,by rw[s.2];exact aoQ _ _⟩⟩
theorem al2(o:gX f n d b i e a j m l q h)(u:J f k)(C D:Int):
  O 115 #[Z b,A C,A D] k fun g v=>∃p r,g=.returned (.tuple #[A p,A r])/\Duo f k n d b i e a l q 116 #[Z i,A C,A D] (.tuple #[A p,A r]) v:=by
 obtain⟨M,N,P,E,Q,_⟩:=(o.af u).fs;by_cases w:vu l C D
 ·obtain⟨c,s,x,y,z,rfl,rfl⟩:=w
  have F:=(o.rel.rel.ms c s x y z).len;refine(aiZ E.m x y z).mono fun g v t=>⟨_,_,t.1,wW o u (by rw[t.2];exact aoQ _ _) fun I _ _ _ _ B=>(ajg B c s x y z).mono fun g L t=>⟨?_,by rw[t.2];exact aoQ _ _⟩⟩
  rw[t.1,F]
 ·exact(aiY E.m C D w).mono fun g v t=>⟨0,9,t.1,wW o u (by rw[t.2];exact aoQ _ _) fun I _ _ _ _ B=>(akx B C D w).mono fun g L t=>⟨t.1,by rw[t.2];exact aoQ _ _⟩⟩
end
section
open Go.RowKit Tryz
attribute [local go_sem ↓] Go.wp_at_zero Go.wp_at_succ
variable {a d:Nat}{b:World}{e:Nat->Prop}
theorem vC{x r:Nat}{f:Value}{g h c e i j k l m:Int}{n:ByteArray}{yes:Bool}(o:b.heap[a]?=some (.cells #[Z x,Z r,f] 135 (0,0)))(p:b.heap[d]?=some (.cells #[A g,A h,A c,A e,A i,A j,A k,.string n,A l,A m,.bool yes] 87 (0,0))):
  b.cell? (H a)=some (Z x)/\b.cell? (K a 1)=some (Z r)/\b.cell? (K d 2)=some (A c)/\b.cell? (K d 3)=some (A e):=by
 refine⟨?_,?_,?_,?_⟩<;>simp[World.cell?,o,p]
theorem al3{w g n}(h:ki w g e n)(o:jD)(z:o.kind=13):
  O 70 #[Z g,.agg #[A o.kind,A o.r,A o.c,A o.d,A o.i1,A o.i2,A o.made,.string o.key,A o.a,A o.b,.bool o.yes]] w fun f B=>f=.returned (.bool true)/\vz w g e (n+1) B:=by
 obtain⟨x,r,C,told,cA,cC,N,D,P,jU,h⟩:=h;rw[z];have p:=aa ((aoQ w.heap.size w).alloc (aoP _) (.cells #[A 13,A o.r,A o.c,A o.d,A o.i1,A o.i2,A o.made,.string o.key,A o.a,A o.b,.bool o.yes] 87));have j:=aa (bL w (.cells #[A 13,A o.r,A o.c,A o.d,A o.i1,A o.i2,A o.made,.string o.key,A o.a,A o.b,.bool o.yes] 87));have E:=aa (bj h.blk p.o);have F:=aa (fun W (I:J w W)=>al0 h I o.c o.d);have L:=aa (show ∀k,w.heap.size<=k->¬e k from fun k hk hF=>by have :=h.lt k hF;omega);have cP:=h.lt _ h.fr;have M:=aa h.blk;clear h;go_enter func70,ntmps70;go_wp2_with fail
 go_region_held3 (fun W=>W.cell? (H g)=some (Z x)/\W.cell? (K g 1)=some (Z r)/\W.cell? (V w 2)=some (A o.c)/\W.cell? (V w 3)=some (A o.d)) (first |exact vC E.o j.o|exact vC q.o i.o)
  (first |(go_at_call 27;refine(F.o _ p.o.drew).mono ?_;rintro f Q ⟨m,rfl,s,t,hD,u⟩;have q:=aa (s.trans M.o);have i:=aa ((t w.heap.size (aM j.o) (L.o _ (aoP _))).trans j.o);have R:=aa u;clear s t u))
 go_wp2_with fail
 go_region_held3 (fun W=>W.cell? (H g)=some (Z x)/\W.cell? (K g 1)=some (Z r)/\W.cell? (V w 2)=some (A o.c)/\W.cell? (V w 3)=some (A o.d)) (first |exact vC q.o i.o|exact vC S.o U.o)
  (first |(go_at_call 113;refine(R.o _ (Loc.cQ ((aoQ _ Q).drew))).mono ?_;rintro f w2 ⟨rfl,⟨X,Y,fK,P',l,v,eu⟩,y⟩;have S:=aa l.blk;have U:=aa ((y w.heap.size (aoP _) (.inl (by simp)) (aM i.o)).trans i.o);have iQ:=aa l;have iR:=aa v;clear l v y eu))
 go_wp2;go_ret
 exact⟨rfl,X,⟨x,r,C,told,Y,fK,N,D,P',by omega,iQ.o⟩,iR.o⟩
theorem al4{w g n}(h:ki w g e n)(o:jD)(z:o.kind=14):
  O 70 #[Z g,.agg #[A o.kind,A o.r,A o.c,A o.d,A o.i1,A o.i2,A o.made,.string o.key,A o.a,A o.b,.bool o.yes]] w fun f B=>f=.returned (.bool true)/\vz w g e (n+1) B:=by
 obtain⟨x,r,C,told,cA,cC,N,D,P,jU,h⟩:=h;rw[z];have p:=aa ((aoQ w.heap.size w).alloc (aoP _) (.cells #[A 14,A o.r,A o.c,A o.d,A o.i1,A o.i2,A o.made,.string o.key,A o.a,A o.b,.bool o.yes] 87));have j:=aa (bL w (.cells #[A 14,A o.r,A o.c,A o.d,A o.i1,A o.i2,A o.made,.string o.key,A o.a,A o.b,.bool o.yes] 87));have E:=aa (bj h.blk p.o);have F:=aa (fun W (I:J w W)=>al1 h I o.c o.d);have L:=aa (show ∀k,w.heap.size<=k->¬e k from fun k hk hF=>by have :=h.lt k hF;omega);have cP:=h.lt _ h.fr;have M:=aa h.blk;clear h;go_enter func70,ntmps70;go_wp2_with fail
 go_region_held3 (fun W=>W.cell? (H g)=some (Z x)/\W.cell? (K g 1)=some (Z r)/\W.cell? (V w 2)=some (A o.c)/\W.cell? (V w 3)=some (A o.d)) (first |exact vC E.o j.o|exact vC q.o i.o)
  (first |(go_at_call 39;refine(F.o _ p.o.drew).mono ?_;rintro f Q ⟨m,rfl,s,t,hD,u⟩;have q:=aa (s.trans M.o);have i:=aa ((t w.heap.size (aM j.o) (L.o _ (aoP _))).trans j.o);have R:=aa u;clear s t u))
 go_wp2_with fail
 go_region_held3 (fun W=>W.cell? (H g)=some (Z x)/\W.cell? (K g 1)=some (Z r)/\W.cell? (V w 2)=some (A o.c)/\W.cell? (V w 3)=some (A o.d)) (first |exact vC q.o i.o|exact vC S.o U.o)
  (first |(go_at_call 114;refine(R.o _ (Loc.cQ ((aoQ _ Q).drew))).mono ?_;rintro f w2 ⟨rfl,⟨X,Y,fK,P',l,v,eu⟩,y⟩;have S:=aa l.blk;have U:=aa ((y w.heap.size (aoP _) (.inl (by simp)) (aM i.o)).trans i.o);have iQ:=aa l;have iR:=aa v;clear l v y eu))
 go_wp2;go_ret
 exact⟨rfl,X,⟨x,r,C,told,Y,fK,N,D,P',by omega,iQ.o⟩,iR.o⟩
theorem al5{w g p}(h:ki w g e p)(o:jD)(B:o.kind=15):
  O 70 #[Z g,.agg #[A o.kind,A o.r,A o.c,A o.d,A o.i1,A o.i2,A o.made,.string o.key,A o.a,A o.b,.bool o.yes]] w fun f C=>f=.returned (.bool true)/\vz w g e (p+1) C:=by
 obtain⟨x,r,D,told,cA,cC,N,E,P,jU,h⟩:=h;rw[B];have q:=aa ((aoQ w.heap.size w).alloc (aoP _) (.cells #[A 15,A o.r,A o.c,A o.d,A o.i1,A o.i2,A o.made,.string o.key,A o.a,A o.b,.bool o.yes] 87));have j:=aa (bL w (.cells #[A 15,A o.r,A o.c,A o.d,A o.i1,A o.i2,A o.made,.string o.key,A o.a,A o.b,.bool o.yes] 87));have F:=aa (bj h.blk q.o);have I:=aa (fun W (L:J w W)=>al2 h L o.c o.d);have M:=aa (show ∀k,w.heap.size<=k->¬e k from fun k hk hF=>by have :=h.lt k hF;omega);have cP:=h.lt _ h.fr;have Q:=aa h.blk;clear h;go_enter func70,ntmps70;go_wp2_with fail
 go_region_held3 (fun W=>W.cell? (H g)=some (Z x)/\W.cell? (K g 1)=some (Z r)/\W.cell? (V w 2)=some (A o.c)/\W.cell? (V w 3)=some (A o.d)) (first |exact vC F.o j.o|exact vC s.o i.o)
  (first |(go_at_call 115;refine(I.o _ q.o.drew).mono ?_;rintro f R ⟨n,m,rfl,t,u,hD,v⟩;have s:=aa (t.trans Q.o);have i:=aa ((u w.heap.size (aM j.o) (M.o _ (aoP _))).trans j.o);have S:=aa v;clear t u v))
 go_wp2_with fail
 go_region_held3 (fun W=>W.cell? (H g)=some (Z x)/\W.cell? (K g 1)=some (Z r)/\W.cell? (V w 2)=some (A o.c)/\W.cell? (V w 3)=some (A o.d)) (first |exact vC s.o i.o|exact vC U.o X.o)
  (first |(go_at_call 116;refine(S.o _ (Loc.cQ ((aoQ _ R).drew))).mono ?_;rintro f w2 ⟨rfl,⟨Y,eF,fK,P',l,y,eu⟩,z⟩;have U:=aa l.blk;have X:=aa ((z w.heap.size (aoP _) (.inl (by simp)) (aM i.o)).trans i.o);have iQ:=aa l;have iR:=aa y;clear l y z eu))
 go_wp2;go_ret
 exact⟨rfl,Y,⟨x,r,D,told,eF,fK,N,E,P',by omega,iQ.o⟩,iR.o⟩
end
section
theorem al6:Ej 15:=fun w c F d h o e f=>by
 by_cases a:o.kind=13
 ·exact al3 h o a
 by_cases b:o.kind=14
 ·exact al4 h o b
 exact al5 h o (by omega)
end
end Go.Proofs.YtnkpogjiiohapaaGreatDoor
