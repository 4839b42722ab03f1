/- Our own text. -/
import Derived.Deep.Slices
import Derived.ReadsIn
import Derived.Deep.DeepCutAuto
import Derived.Test.YtnkpogjiiohapaaGreatDoorA39
import Derived.Test.YtnkpogjiiohapaaGreatDoorA40
import Derived.Test.YtnkpogjiiohapaaGreatDoorA37
set_option linter.unusedSimpArgs false
set_option linter.unusedVariables false
set_option maxRecDepth 1000000
set_option maxHeartbeats 40000000
namespace Go.Proofs.YtnkpogjiiohapaaGreatDoor
section
open Go.RowKit Go.ChangeShapes Go.WideShapes Go.Deep Tryz
variable {a h:Nat->Bool}{b:Bool}{c:Nat}{d i:World}{e:Program}{f:TypeId}
theorem Tx {g:Type} {l:TypeId×Value->g} {base:Nat} (j:e.underlying f=some (.int .i64)\/e.underlying f=some .string\/e.underlying f=some .bool) (n:Nat) (k:List Value):DataW.trod l e d base a b n f k=DataW.trod l e i base h b n f k:=by
 cases n with
 |zero=>rfl
 |succ n=>
  rcases j with j|j|j<;>unfold DataW.trod<;>rw[j]<;>
  ·match k with
   |[]=>rfl
   |[c]=>cases c<;>rfl
   |c::_::_=>cases c<;>rfl
theorem abt {g:Type} {l:TypeId×Value->g} {base:Nat} {m:Array Field} (o:e.underlying f=some (.struct m)) (p:∀c∈m.toList,∀n k,DataW.trod l e d base a b n c.type k=DataW.trod l e i base h b n c.type k) (n:Nat) (k:List Value):DataW.trod l e d base a b n f k=DataW.trod l e i base h b n f k:=by
 cases n with
 |zero=>rfl
 |succ n=>
  unfold DataW.trod;rw[o];have j:(m.toList.mapM fun c=>DataW.trod l e d base a b n c.type ((k.drop c.offset).take (e.cellsOf c.type)))=m.toList.mapM fun c=>DataW.trod l e i base h b n c.type ((k.drop c.offset).take (e.cellsOf c.type)):=mapM_congr_mem fun c q=>p c q _ _
  split <;>simp_all
theorem AM {g:Type} {l:TypeId×Value->g} {base:Nat} {i:List Value} {x:DataW g×List MemPlace} (m:e.underlying f=some (.int .i64)) (h:DataW.trod l e d base a b c f i=some x):∃k,i=[A k]/\k7 k:=by
 obtain⟨k,n,_,j⟩:=DataW.trod_int m h;refine⟨k,n,?_⟩;simp[Lit.wf]at j;exact j
theorem Ks:prog.cellsOf 87=11:=by kernel_rfl
theorem amL:prog.cellsOf 36=2:=by kernel_rfl
theorem CJ:prog.cellsOf 3=1:=by kernel_rfl
theorem amM:prog.cellsOf 9=1:=by kernel_rfl
theorem amN:prog.cellsOf 4=1:=by kernel_rfl
theorem amO {d:Type} {e:TypeId×Value->d} {w:World} {base:Nat} {g:List Value} {x:DataW d×List MemPlace} (h:DataW.trod e prog w base a b c 87 g=some x):
  ∃o:jX,g=(Kc o).toList/\p8 o:=by
 obtain⟨B,m,rfl,rfl,i,C,f⟩:=DataW.trod_struct underlying87 h;rw[Ks]at i
 match B,C with
 |[D,E,F,I,L,M,N,P,Q,R],_=>
  match g,i with
  |[S,U,W,X,ee,Y,sc,apF,apG,apH,c10],_=>
   have f0:DataW.trod e prog w base a b m 3 [S]=some D:=by simpa[CJ]using f 0 _ rfl
   have f1:DataW.trod e prog w base a b m 3 [U]=some E:=by simpa[CJ]using f 1 _ rfl
   have f2:DataW.trod e prog w base a b m 3 [W]=some F:=by simpa[CJ]using f 2 _ rfl
   have f3:DataW.trod e prog w base a b m 3 [X]=some I:=by simpa[CJ]using f 3 _ rfl
   have f4:DataW.trod e prog w base a b m 36 [ee,Y]=some L:=by simpa[amL]using f 4 _ rfl
   have f5:DataW.trod e prog w base a b m 3 [sc]=some M:=by simpa[CJ]using f 5 _ rfl
   have f6:DataW.trod e prog w base a b m 9 [apF]=some N:=by simpa[amM]using f 6 _ rfl
   have f7:DataW.trod e prog w base a b m 3 [apG]=some P:=by simpa[CJ]using f 7 _ rfl
   have f8:DataW.trod e prog w base a b m 3 [apH]=some Q:=by simpa[CJ]using f 8 _ rfl
   have f9:DataW.trod e prog w base a b m 4 [c10]=some R:=by simpa[amN]using f 9 _ rfl
   obtain⟨dJ,j,h0⟩:=AM underlying3 f0;obtain⟨dx,k,h1⟩:=AM underlying3 f1;obtain⟨cV,l,h2⟩:=AM underlying3 f2;obtain⟨hh,n,al⟩:=AM underlying3 f3;obtain⟨z0,z1,m2,_,_,p,q⟩:=trod_struct2 underlying36 f4;simp only[CJ,List.drop,List.take]at p q;obtain⟨v7,r,aL⟩:=AM underlying3 p;obtain⟨xk,s,b1⟩:=AM underlying3 q;obtain⟨yM,t,e9⟩:=AM underlying3 f5;obtain⟨key,u,_,ga⟩:=DataW.trod_string underlying9 f6;obtain⟨AH,v,ur⟩:=AM underlying3 f7;obtain⟨AJ,y,uC⟩:=AM underlying3 f8;obtain⟨yes,z,_⟩:=DataW.trod_bool underlying4 f9;simp only[asd,and_true]at j k l n r s t u v y z;subst j k l n r s t u v y z;exact⟨⟨dJ,dx,cV,hh,v7,xk,yM,key,AH,AJ,yes⟩,rfl,⟨h1,e9,ur,uC,ga⟩⟩
theorem amP {b:Type} {enc:TypeId×Value->b} {w:World} {base:Nat} {held:Bool} (e:World) (g:Nat->Bool) (n:Nat) (c:List Value):DataW.trod enc prog w base a held n 87 c=DataW.trod enc prog e base g held n 87 c:=by
 have h:∀n c,DataW.trod enc prog w base a held n 3 c=DataW.trod enc prog e base g held n 3 c:=Tx (.inl underlying3);have i:∀n c,DataW.trod enc prog w base a held n 9 c=DataW.trod enc prog e base g held n 9 c:=Tx (.inr (.inl underlying9));have j:∀n c,DataW.trod enc prog w base a held n 4 c=DataW.trod enc prog e base g held n 4 c:=Tx (.inr (.inr underlying4));have k:=abt underlying36 fun f d=>by
  simp only[aqb,asi,or_false]at d;rcases d with rfl|rfl<;>exact h
 refine abt underlying87 (fun f d=> ?_) n c;simp only[aqb,asi,or_false]at d;rcases d with rfl|rfl|rfl|rfl|rfl|rfl|rfl|rfl|rfl|rfl<;>first |exact h|exact i|exact j|exact k
theorem amQ {α:Type} (d:α) {p:Nat->α->Prop} (h:∀i,i<c->∃x,p i x):∃f:Nat->α,∀i,i<c->p i (f i):=by
 have a:∀i,∃x,i<c->p i x:=fun i=>by
  by_cases b:i<c
  ·simp_all
  exact⟨d,fun e=>absurd e b⟩
 exact⟨fun i=>Classical.choose (a i),fun i=>Classical.choose_spec (a i)⟩
def G6 (w:World) (c:Option Addr) (a:List jX):Prop:=∀i (d:i<a.length),∃g b,c=some (K g b)/\∀j v,(Kc a[i])[j]?=some v->w.cell? (K g (b+i*11+j))=some v
theorem G6.ae{w a b}{w':World}(h:G6 w a b)(e:Below c w w')(f:w.heap.size<=c):G6 w' a b:=fun i k=>by
 obtain⟨g,off,l,m⟩:=h i k;refine⟨g,off,l,fun j v n=> ?_⟩;have d:=m j v n;rw[e.cell (ap3 (aqd w _ d) f)];exact d
theorem amR {f:Type} {enc:TypeId×Value->f} {v:Value} {b:DataW f} {z:List MemPlace} (h:DataW.Trod enc prog d 0 (fun _=>true) true 22 v b z) (S:∀p∈z,p.block<d.heap.size) (B:∃a n c,v=.slice a n c):
  ∃(L:Option Addr) (r:List jX) (cap:Nat),v=.slice L r.length cap/\(∀i (k:i<r.length),p8 r[i])/\G6 d L r/\(b=.nil/\r=[]\/∃elems spare,b=.slice elems spare/\elems.length=r.length)/\r.length<=9223372036854775807/\
   ∀l,J d l->∀q:Nat->Bool,(∀p∈z,q p.block=true)->DataW.Trod enc prog l 0 q true 22 v b z:=by
 obtain⟨fuel,h⟩:=h;obtain⟨bV,M,bQ,rfl⟩:=B;rcases open_slice underlying22 h with⟨s,t⟩|⟨a,len,cap,m,n,D,u,s,ab,U,W,N,t,P⟩
 ·simp[Value.cells]at s;obtain⟨rfl,rfl,rfl⟩:=s;simp only[arL]at t;obtain⟨rfl,rfl⟩:=t;refine⟨none,[],0,rfl,(fun i k=>(by cases k)),(fun i k=>(by cases k)),.inl ⟨rfl,rfl⟩,(by simp),(fun l _ q _=>⟨1,?_⟩)⟩;simp[Value.cells,DataW.trod,underlying22]
 simp[Value.cells]at s;obtain⟨rfl,rfl,rfl⟩:=s;simp only[if_true]at N;subst N;simp only[arL]at t;obtain⟨rfl,rfl⟩:=t;rw[Ks]at P;obtain⟨e,x⟩:=amQ (α:=jX) ⟨0,0,0,0,0,0,0,⟨#[]⟩,0,0,false⟩ (p:=fun i o=>p8 o/\d.cells? 0 (a.add (i*11)) 11=some (Kc o).toList/\DataW.trod enc prog d 0 (fun _=>true) true n 87 (Kc o).toList=some (D i,u i)) (fun i k=>by
  obtain⟨F,C,y⟩:=P i k;obtain⟨o,rfl,X⟩:=amO y;exact⟨o,X,C,y⟩)
 unfold maxLen at W;refine⟨some a,(List.range M).map e,m,by simp,fun i k=> ?_,fun i k=> ?_,.inr ⟨_,_,rfl,by simp⟩,by simp;omega,fun l Y q r6=> ?_⟩
 ·simp at k⊢;exact(x i (by omega)).1
 ·simp at k;have C:=(World.cells?_some (x i (by omega)).2.1).2.2;have E:a.spot=none:=by
   by_cases I:i=0
   ·subst I;have :=World.cell?_spot ((C 0 (by omega)).trans (show _=some (A (e 0).kind) from rfl));simpa[Addr.add]using this
   have :=World.cell?_spot ((World.cells?_some (x 0 (by omega)).2.1).2.2 0 (by omega)|>.trans (show _=some (A (e 0).kind) from rfl));simpa[Addr.add]using this
  obtain⟨g,off,spot⟩:=a;subst E;refine⟨g,off,rfl,fun j v B=> ?_⟩;have au:j<11:=by
   have :=(ap8.1 B).1;simpa[Kc]using this
  have y:=C j au;rw[add_add,add_plain,<-Nat.add_assoc]at y;rw[y];simpa using B
 have Q:∀i,i<m->∃F n,l.cells? 0 (a.add (i*prog.cellsOf 87)) (prog.cellsOf 87)=some F/\DataW.trod enc prog l 0 q true n 87 F=some (D i,u i):=fun i k=>by
  refine⟨_,n,World.cells?_carry (w:=d) (by rw[Ks];exact(x i k).2.1) fun p R=>Y.same ?_,(amP d (fun _=>true) n _).trans (x i k).2.2⟩;have CO:p.block=a.block:=by
   simp only[MemPlace.row,ap5]at R;obtain⟨j,_,rfl⟩:=R;simp[MemPlace.block,Addr.add];split <;>rfl
  rw[CO];refine S (.cell a.block (a.off+0)) (aq3 _ ?_);simp only[MemPlace.row,ap5,aqX];exact⟨0,by rw[Ks];omega,rfl⟩
 by_cases I:m=0
 ·subst I;obtain rfl:M=0:=by omega
  cases E:q a.block with
  |false=>
   have :=shut_slice (enc:=enc) (w:=l) (held:=true) (a:=a) (spare:=q) (base:=0) underlying22 (apZ _) (apX 0) (by unfold maxLen;omega) E D u (fun i k=>by omega);simpa using this
  |true=>exact shut_slice_whole (enc:=enc) (w:=l) (held:=true) (a:=a) (spare:=q) (base:=0) underlying22 (apZ _) (apX 0) (by unfold maxLen;omega) E D u Q
 refine shut_slice_whole (enc:=enc) (w:=l) (held:=true) (a:=a) (spare:=q) (base:=0) underlying22 (apZ _) U (by unfold maxLen;omega) (r6 (.cell a.block (a.off+0)) (aq3 _ ?_)) D u Q;simp only[MemPlace.row,ap5,aqX];exact⟨0,by rw[Ks];omega,rfl⟩
end
section
open Go.RowKit Tryz
attribute [local go_sem ↓] Go.wp_at_zero Go.wp_at_succ
variable {a d e:World}{b c:Nat}
theorem amS:jH d.heap.size d.heap.size (.slice none 0 0) (.slice none 0 0) (.slice none 0 0) (.slice none 0 0) [] [] [] [] (fun _ _=>False) (fun k=>k=d.heap.size) 0 (d.alloc (.cells #[.slice none 0 0,.slice none 0 0,.slice none 0 0,.slice none 0 0] 84)) where
 y:=bI d _
 bo:=⟨rfl,.inl ⟨rfl,rfl⟩⟩
 a:=⟨rfl,.inl ⟨rfl,rfl⟩⟩
 b:=⟨rfl,.inl ⟨rfl,rfl⟩⟩
 c:=⟨rfl,.inl ⟨rfl,rfl⟩⟩
 eV:=fun i e=>by cases e
 jn:=fun i _ _ e=>by simp
 oB:=fun i _ e=>by simp
 b3:=fun i _ e=>by simp
 a1:=fun k f=>by simp_all
 me:=rfl
 sz:=fun k f=>by cases f
 ct:=fun k f=>by cases f
 sA:=fun k f=>by cases f
 rc:=fun k f=>by cases f
 xg:=fun i e=>by cases e
 CI:=fun i e=>by cases e
 fY:=fun i e=>by cases e
 wk:=apX _
 lM:=apX _
 p2:=apX _
 lN:=apX _
 bs:=by simp
theorem jc.grow{base}(h:jc base b c a d)(f:J d e):jc base b c a e:=by
 obtain⟨i,j,k,l,m,n,o,p,q,R,g,r⟩:=h;exact⟨i,j,k,l,m,n,o,p,q,R,g.below f,r.trans (f.mono g.bs)⟩
theorem jc.more{base gy a w W}{b:Nat}(h:jc base gy a w W)(c:a<=b):jc base gy b w W:=by
 obtain⟨d,e,f,g,i,j,k,l,m,R,n,o⟩:=h;exact⟨d,e,f,g,i,j,k,l,m,R,n.more c,o⟩
theorem jc.after{base:Nat}(h:Below base a d)(f:jc base b c d e):jc base b c a e:=by
 obtain⟨g,i,j,k,l,m,n,o,p,R,q,r⟩:=f;exact⟨g,i,j,k,l,m,n,o,p,R,q,h.trans r⟩
theorem jc.whole{base i j}(h:jc base i j e d)(l:j<2000000000000):O 36 #[.pointer (some (K i 1))] d fun f k=>f=.returned (.bool true)/\J d k:=by
 obtain⟨m,n,o,p,q,r,s,t,u,R,g,v⟩:=h;have :=g.lM;have :=g.p2;have :=g.lN;exact alR g.y (by omega) (by omega) (by omega) g.a g.b g.c g.xg.mG g.CI.mG g.fY.mG
theorem jc.step{base i j w f}(h:jc base i j w e)(m:base=w.heap.size)(n:Pow w)(p:j<2000000000000)(o:jX)(q:p8 o)(s:EW f)(t:f<=22)(u:1<=o.kind/\o.kind<=f):O 35 #[Z i,.agg #[A o.kind,A o.r,A o.c,A o.d,A o.i1,A o.i2,A o.made,.string o.key,A o.a,A o.b,.bool o.yes]] e fun g w'=>g=.returned (.bool true)/\jc base i (j+1) w w':=by
 obtain⟨x,y,z,B,C,D,E,F,I,R,v,k⟩:=h;refine(amK v p o q (n.ae (m▸k)) s t u).mono fun g w' l=>⟨l.1,l.2.after k⟩
theorem amT:p8 ⟨1,0,0,0,0,0,0,⟨#[]⟩,3,4,false⟩:=⟨⟨by decide,by decide⟩,⟨by decide,by decide⟩,⟨by decide,by decide⟩,⟨by decide,by decide⟩,by show(0:Nat)<=maxLen;simp⟩
theorem amU:p8 ⟨3,0,0,0,0,0,0,⟨#[108]⟩,0,0,true⟩:=⟨⟨by decide,by decide⟩,⟨by decide,by decide⟩,⟨by decide,by decide⟩,⟨by decide,by decide⟩,by show(1:Nat)<=maxLen;unfold maxLen;omega⟩
theorem amV{z d c}{cap gk:Nat}(N:G6 a z d)(P:∀i (hi:i<d.length),p8 d[i])(hn:d.length<=1500000000000){ks:List Int}(Q:EW c)(n:3<=c/\c<=22)(R:∀k∈ks,1<=k/\k<=c)(hW:ks.length<=22)(S:∀(q:Nat) (U:q<ks.length),a.cell? (K gk q)=some (A ks[q]))(X:Pow a):
  O 13 #[.slice z d.length cap,.slice (some (H gk)) ks.length ks.length] a fun e Y=>e=.returned (.bool true)/\J a Y:=by
 have jL:=N;have kO:=P;have B:=S;have Bb:=R;have r:=Q;have s:=X;have lP:=aa (show jc a.heap.size a.heap.size 0 a (a.alloc (.cells #[.slice none 0 0,.slice none 0 0,.slice none 0 0,.slice none 0 0] 84)) from⟨_,_,_,_,_,_,_,_,_,_,amS,(apY a.heap.size a).alloc (apX _) _⟩);have iN:=aa (lP.o.step rfl s (by omega) ⟨1,0,0,0,0,0,0,⟨#[]⟩,3,4,false⟩ amT r n.2 ⟨by decide,by show(1:Int)<=c;omega⟩);have l4:=aa (fun W (h:jc a.heap.size a.heap.size 1 a W)=>h.step rfl s (by omega) ⟨3,0,0,0,0,0,0,⟨#[108]⟩,0,0,true⟩ amU r n.2 ⟨by decide,by simp_all⟩);go_enter func13,ntmps13;go_wp2_with fail
 refine iN.o.mono ?_;rintro e w1 ⟨rfl,t⟩;have ke:=aa t;go_wp2_with fail
 refine(l4.o _ ke.o).mono ?_;rintro e w2 ⟨rfl,gC⟩;have jP:=gC;go_wp2;go_loopw [6,7] (fun ok i wr=>ok=.bool true/\∃p:Nat,p<=d.length/\i=A p/\jc a.heap.size a.heap.size (p+2) a wr) (fun _ i _=>d.length-(intOf i).toNat)
 case atStart=>exact⟨rfl,0,apZ _,rfl,jP⟩
 case round=>
  obtain⟨rfl,p,ah,rfl,gd⟩:=hrel;have C:=gd;by_cases D:p<d.length
  ·obtain⟨g,off,rfl,qx⟩:=jL p D;have l:=qx;have jY:(0:Int)<=(p:Int):=by simp
   have t:(p:Int)<(d.length:Int):=by omega
   have E:=l 0 _ rfl;simp only[aqW]at E;have F:=E;obtain⟨v,uA⟩:∃v,v=wr:=⟨_,rfl⟩;subst uA;go_wp2;go_loopw [8,9] (fun u j wr=>∃(b:Bool) (q:Nat),q<=ks.length/\u=.bool b/\j=A q/\(b=true->1<=d[p].kind/\d[p].kind<=c)/\J v wr) (fun _ j _=>ks.length-(intOf j).toNat)
   case atStart=>exact⟨false,0,apZ _,rfl,rfl,fun h=>(by cases h),apY _ _⟩
   case round=>
    obtain⟨b,q,U,rfl,rfl,m,a8⟩:=hrel;have w:=a8;have I:=m;have x:=C.grow w;have f:=show J a wr by obtain⟨_,_,_,_,_,_,_,_,_,_,_,m⟩:=x;exact m
    by_cases y:q<ks.length
    ·have nP:(0:Int)<=(q:Int):=by simp
     have qw:(q:Int)<(ks.length:Int):=by omega
     have a6:=ae f (B q y);have bf:=ae f F;have c1d:=ae f.drew (B q y);cases b with
     |true=>
      go_wp2;go_region
      all_goals(go_wp2;go_roundw)
      case rel=>exact⟨true,q+1,by omega,rfl,by go_num,fun _=>I trivial,w.drew⟩
      case measure=>simp[intOf];omega
     |false=>
      have HKQ:=Bb ks[q] (ap6 y);generalize ks[q]=L at *;go_wp2;go_region_held3 (fun W=>W.cell? (K g (off+p*11))=some (A d[p].kind)/\W.cell? (K gk q)=some (A L)) (first |exact⟨bf,a6⟩|exact⟨ae f.drew F,c1d⟩) (fail)
      go_wp2;go_roundw
      case rel=>exact⟨d[p].kind==L,q+1,by omega,rfl,by go_num,fun h=>by rw[beq_iff_eq]at h;rw[h];exact HKQ,w.drew⟩
      case measure=>simp[intOf];omega
    have qw:¬((q:Int)<(ks.length:Int)):=by omega
    obtain rfl:q=ks.length:=by omega
    cases b with
    |false=>
     go_wp2;go_roundw
     case rel=>exact⟨rfl,p+1,by omega,by go_num,x.more (by omega)⟩
     case measure=>simp[intOf];omega
    |true=>
     have dp:=I rfl;have o7:=x.step rfl s (by omega) d[p] (kO p D) r n.2 dp;have d0:=ae f (l 0 _ rfl);have d1:=ae f (l 1 _ rfl);have d2:=ae f (l 2 _ rfl);have d3:=ae f (l 3 _ rfl);have d4:=ae f (l 4 _ rfl);have d5:=ae f (l 5 _ rfl);have d6:=ae f (l 6 _ rfl);have d7:=ae f (l 7 _ rfl);have d8:=ae f (l 8 _ rfl);have d9:=ae f (l 9 _ rfl);have d10:=ae f (l 10 _ rfl);simp only[aqW]at d0;go_wp2_with fail
     refine o7.mono ?_;rintro e w3 ⟨rfl,oj⟩;have M:=oj;have HWH:=M.whole (by omega);go_wp2_with fail
     refine HWH.mono ?_;rintro e w4 ⟨rfl,gp⟩;have fx:=aa gp;go_wp2;go_roundw
     case rel=>exact⟨rfl,p+1,by omega,by go_num,(M.grow fx.o).more (by omega)⟩
     case measure=>simp[intOf];omega
  have t:¬((p:Int)<(d.length:Int)):=by omega
  go_wp2;go_ret
  obtain⟨_,_,_,_,_,_,_,_,_,_,_,m⟩:=C;exact⟨rfl,m⟩
end
section
open Go.RowKit Tryz
variable {a h k m n:Nat}{b:List PId}{c i l:Nat->Prop}{d:Value}{e j:World}{f:fV}
theorem ev.shut{M s}(h:ev a M s)(c d:Nat):ev a M (Af s c d):=⟨h.made,h.copy,h.own,h.jB,h.vW,h.cnt,h.msgs,h.l3,h.tx,h.Er,h.Es,h.Et⟩
theorem G7 {α β:Type} {l:List α} {m:List β} (h:l.length=m.length):l=[]↔m=[]:=by
 rw[<-List.length_eq_zero_iff,<-List.length_eq_zero_iff,h]
theorem amW(g:fW e m c h k d b i l a n f)(y:J e j)(C D:Int):
  O 27 #[Z h,A C,A D] j fun q z=>∃r,q=.returned (A r)/\Duo e j m c h k d b a n 113 #[Z k,A C,A D] (A r) z:=by
 obtain⟨R,U,W,x,I,_⟩:=(g.ae y).eV;by_cases B:lo a C D
 ·obtain⟨o,p,u,v,w,rfl,rfl⟩:=B;have F:=(g.rel.rel.ms o p u v w).len;have X:=g.rel.mc.len o p u v;have Y:=g.rel.mc.len p o v u;have p9:=(g.rel.rel.ms p o v u (aqa w)).len;refine(ahR x.m u v w).mono fun q z t=> ?_
  refine⟨_,t.1,yU g y (P':=⟨f.M,B2 a f.s o p,Ag a f.S o p⟩) (.ofM _ I (x.ok.ask u v w) x.md t.2) ⟨g.rel.rel.ask u v w (by omega),g.rel.mc.ask u v,g.rel.nice,g.rel.aQ.same (by unfold B2;split <;>rfl) (by unfold Ag;split <;>rfl) (by unfold Ag;split <;>rfl)⟩ fun L N=> ?_⟩;obtain⟨aR,e5,I',jo,E,P,_⟩:=N;refine(akn E o p u v w).mono fun q Q t=>⟨?_,.of _ _ P t.2⟩
  rw[t.1];simp only[g.rel.rel.sh o p u v w,G7 F,F,show((f.S.ms o p).length=12)=(12<=(f.S.ms o p).length) from propext ⟨fun q=>by omega,fun q=>by omega⟩]
 exact(ajt x.m C D B).mono fun q z t=>⟨9,t.1,rC g y (by rw[t.2];exact apY _ _) fun L _ _ _ _ E=>(alu E C D B).mono fun q Q t=>⟨t.1,by rw[t.2];exact apY _ _⟩⟩
theorem amX(g:fW e m c h k d b i l a n f)(x:J e j)(C D:Int):
  O 39 #[Z h,A C,A D] j fun q y=>∃r,q=.returned (A r)/\Duo e j m c h k d b a n 114 #[Z k,A C,A D] (A r) y:=by
 obtain⟨W,X,Y,w,F,_⟩:=(g.ae x).eV;by_cases z:lo a C D
 ·obtain⟨o,p,t,u,v,rfl,rfl⟩:=z;have dS:=g.rel.rel.sh o p t u v;have hz:=g.rel.mc.len o p t u;have xt:=g.rel.mc.len p o u t;have p9:=(g.rel.rel.ms p o u t (aqa v)).len;refine(aik w.m w.ok t u v).mono fun q y s=> ?_
  obtain⟨I,L,B,N⟩:=s;replace s:=And.intro I N;refine⟨_,s.1,yU g x (P':=⟨f.M,L,nG a f.S o p⟩) (.ofM _ F (w.ok.Ad t u v B) w.md s.2) ⟨g.rel.rel.Ad w.ok t u v (by omega) B,g.rel.mc.S6 t u v,g.rel.nice,g.rel.aQ.Ad B⟩ fun P Q=> ?_⟩;obtain⟨aR,e5,I',jo,E,R,_⟩:=Q;refine(ald E g.rel.mc o p t u v).mono fun q U s=>⟨?_,.of _ _ R s.2⟩
  rw[s.1];simp only[G7 ((g.rel.rel.ms o p t u v).len)]
 exact(aju w.m C D z).mono fun q y s=>⟨9,s.1,rC g x (by rw[s.2];exact apY _ _) fun P _ _ _ _ E=>(alv E C D z).mono fun q U s=>⟨s.1,by rw[s.2];exact apY _ _⟩⟩
theorem amY(g:fW e m c a h d b i l k n f)(y:J e j)(C D:Int):
  O 41 #[Z a,A C,A D] j fun q z=>∃r,q=.returned (A r)/\Duo e j m c a h d b k n 117 #[Z h,A C,A D] (A r) z:=by
 obtain⟨Q,R,U,x,F,_⟩:=(g.ae y).eV;by_cases B:lo k C D
 ·obtain⟨o,p,u,v,w,rfl,rfl⟩:=B;have W:=g.rel.rel.sh o p u v w;have X:=g.rel.mc.len o p u v;have Y:=g.rel.mc.len p o v u;have p9:=(g.rel.rel.ms p o v u (aqa w)).len;refine(ahU x.m u v w).mono fun q z t=> ?_
  refine⟨_,t.1,yU g y (P':=⟨f.M,Ab f.s o p,if f.S.ms o p=[] then f.S else Ez f.S o p⟩) (.ofM _ F (x.ok.I0 u v w) x.md t.2) ⟨g.rel.rel.I0 u v w,by split;exact g.rel.mc;exact g.rel.mc.I0 u v,g.rel.nice,g.rel.aQ.same (s':=Ab f.s o p) (S':=if f.S.ms o p=[] then f.S else Ez f.S o p) (by unfold Ab;(repeat' split)<;>rfl) (by split <;>rfl) (by split <;>rfl)⟩ fun I L=> ?_⟩;obtain⟨aR,e5,I',jo,E,N,_⟩:=L;refine(akl E o p u v w).mono fun q P t=>⟨?_,.of _ _ N t.2⟩
  rw[t.1];simp only[G7 ((g.rel.rel.ms o p u v w).len)]
 exact(ajw x.m C D B).mono fun q z t=>⟨9,t.1,rC g y (by rw[t.2];exact apY _ _) fun I _ _ _ _ E=>(alx E C D B).mono fun q P t=>⟨t.1,by rw[t.2];exact apY _ _⟩⟩
theorem amZ(g:fW e m c a h d b i l k n f)(y:J e j)(C D:Int):
  O 42 #[Z a,A C,A D] j fun q z=>∃r,q=.returned (A r)/\Duo e j m c a h d b k n 118 #[Z h,A C,A D] (A r) z:=by
 obtain⟨R,U,W,x,I,_⟩:=(g.ae y).eV;by_cases B:lo k C D
 ·obtain⟨o,p,u,v,w,rfl,rfl⟩:=B;have F:=(g.rel.rel.ms o p u v w).len;have X:=g.rel.mc.len o p u v;have Y:=g.rel.mc.len p o v u;have p9:=(g.rel.rel.ms p o v u (aqa w)).len;refine(ahW x.m u v w).mono fun q z t=> ?_
  refine⟨_,t.1,yU g y (P':=⟨f.M,B6 f.s o p,Ai f.S o p⟩) (.ofM _ I (x.ok.again u v w) x.md t.2) ⟨g.rel.rel.again u v w (by omega),g.rel.mc.again u v,g.rel.nice,g.rel.aQ.same (by unfold B6;(repeat' split)<;>rfl) (by unfold Ai;(repeat' split)<;>rfl) (by unfold Ai;(repeat' split)<;>rfl)⟩ fun L N=> ?_⟩;obtain⟨aR,e5,I',jo,E,P,_⟩:=N;refine(ako E o p u v w).mono fun q Q t=>⟨?_,.of _ _ P t.2⟩
  rw[t.1];simp only[g.rel.rel.sh o p u v w,G7 F,F,show((f.S.ms o p).length=12)=(12<=(f.S.ms o p).length) from propext ⟨fun q=>by omega,fun q=>by omega⟩]
 exact(ajx x.m C D B).mono fun q z t=>⟨9,t.1,rC g y (by rw[t.2];exact apY _ _) fun L _ _ _ _ E=>(aly E C D B).mono fun q Q t=>⟨t.1,by rw[t.2];exact apY _ _⟩⟩
theorem am0(g:fW e m c a h d b i l k n f)(y:J e j)(C D:Int):
  O 43 #[Z a,A C,A D] j fun q z=>∃r,q=.returned (A r)/\Duo e j m c a h d b k n 119 #[Z h,A C,A D] (A r) z:=by
 obtain⟨Q,R,U,x,F,_⟩:=(g.ae y).eV;by_cases B:lo k C D
 ·obtain⟨o,p,u,v,w,rfl,rfl⟩:=B;have W:=g.rel.mc.len p o v u;have X:=(g.rel.rel.ms p o v u (aqa w)).len;refine(ahV x.m u v w).mono fun q z t=> ?_
  refine⟨_,t.1,yU g y (P':=⟨f.M,B5 f.s o p,Ah f.S o p⟩) (.ofM _ F (x.ok.later u v w) x.md t.2) ⟨g.rel.rel.later u v w,g.rel.mc.later u v,g.rel.nice,g.rel.aQ.same (by unfold B5;(repeat' split)<;>rfl) (by unfold Ah;(repeat' split)<;>rfl) (by unfold Ah;(repeat' split)<;>rfl)⟩ fun I L=> ?_⟩;obtain⟨Y,e5,I',jo,E,N,_⟩:=L;refine(akp E o p u v w (g.rel.mc.len o p u v)).mono fun q P t=>⟨?_,.of _ _ N t.2⟩
  rw[t.1];simp only[g.rel.rel.sh o p u v w,G7 ((g.rel.rel.ms o p u v w).len)]
 exact(ajy x.m C D B).mono fun q z t=>⟨9,t.1,rC g y (by rw[t.2];exact apY _ _) fun I _ _ _ _ E=>(alz E C D B).mono fun q P t=>⟨t.1,by rw[t.2];exact apY _ _⟩⟩
theorem am1(p:fW e m c h k d b i l a n f)(y:J e j)(C D:Int):
  O 120 #[Z h,A C,A D] j fun q z=>∃r,q=.returned (A r)/\Duo e j m c h k d b a n 121 #[Z k,A C,A D] (A r) z:=by
 obtain⟨R,U,W,x,I,_⟩:=(p.ae y).eV;by_cases B:lo a C D
 ·obtain⟨g,o,u,v,w,rfl,rfl⟩:=B;have F:=p.rel.rel.sh g o u v w;have X:=p.rel.mc.len g o u v;have Y:=p.rel.mc.len o g v u;have p9:=(p.rel.rel.ms o g v u (aqa w)).len;have KM:=G7 ((p.rel.rel.ms g o u v w).len);refine(ajE x.m u v w).mono fun q z t=> ?_
  refine⟨_,t.1,yU p y (P':=⟨f.M,if f.s.sh g o=true then f.s else Af f.s g o,if f.S.sh g o=true then f.S else yO f.S g o⟩) (.ofM _ I (by split;exact x.ok;exact x.ok.shut g o) x.md t.2) ⟨by rw[F];split;exact p.rel.rel;exact p.rel.rel.shut u v w,by show gS a (if f.S.sh g o=true then f.S else yO f.S g o);split;exact p.rel.mc;exact p.rel.mc.shut g o,p.rel.nice,p.rel.aQ.same (s':=if f.s.sh g o=true then f.s else Af f.s g o) (S':=if f.S.sh g o=true then f.S else yO f.S g o) (by split <;>rfl) (by split <;>rfl) (by split <;>rfl)⟩ fun L N=> ?_⟩;obtain⟨aR,e5,I',jo,E,P,_⟩:=N;refine(akm E g o u v w).mono fun q Q t=>⟨?_,.of _ _ P t.2⟩
  rw[t.1];simp only[F]
 exact(ajz x.m C D B).mono fun q z t=>⟨9,t.1,rC p y (by rw[t.2];exact apY _ _) fun L _ _ _ _ E=>(alA E C D B).mono fun q Q t=>⟨t.1,by rw[t.2];exact apY _ _⟩⟩
theorem am2(o:fW e m c a h d b i l k n f)(u:J e j)(C D:Int):
  O 115 #[Z a,A C,A D] j fun g v=>∃p q,g=.returned (.tuple #[A p,A q])/\Duo e j m c a h d b k n 116 #[Z h,A C,A D] (.tuple #[A p,A q]) v:=by
 obtain⟨L,M,N,E,P,_⟩:=(o.ae u).eV;by_cases w:lo k C D
 ·obtain⟨r,s,x,y,z,rfl,rfl⟩:=w;refine(ajB E.m x y z).mono fun g v t=>⟨_,_,t.1,rC o u (by rw[t.2];exact apY _ _) fun F _ _ _ _ B=>(aka B r s x y z).mono fun g I t=>⟨?_,by rw[t.2];exact apY _ _⟩⟩
  rw[t.1,(o.rel.rel.ms r s x y z).len]
 exact(ajv E.m C D w).mono fun g v t=>⟨0,9,t.1,rC o u (by rw[t.2];exact apY _ _) fun F _ _ _ _ B=>(alw B C D w).mono fun g I t=>⟨t.1,by rw[t.2];exact apY _ _⟩⟩
end
section
open Go.RowKit Tryz
attribute [local go_sem ↓] Go.wp_at_zero Go.wp_at_succ
variable {a c e f:Nat}{b:World}{d:Nat->Prop}
theorem CK{h:Value}{i j d g k l m n o:Int}{p:ByteArray}{yes:Bool}(q:b.heap[a]?=some (.cells #[Z e,Z f,h] 135 (0,0)))(r:b.heap[c]?=some (.cells #[A i,A j,A d,A g,A k,A l,A m,.string p,A n,A o,.bool yes] 87 (0,0))):
  b.cell? (H a)=some (Z e)/\b.cell? (K a 1)=some (Z f)/\b.cell? (K c 2)=some (A d)/\b.cell? (K c 3)=some (A g):=by
 refine⟨?_,?_,?_,?_⟩<;>simp[World.cell?,q,r]
theorem am3{w F}(h:kI w e F f)(o:jX)(C:o.kind=13\/o.kind=14\/o.kind=16\/o.kind=17\/o.kind=18\/o.kind=19):
  O 70 #[Z e,.agg #[A o.kind,A o.r,A o.c,A o.d,A o.i1,A o.i2,A o.made,.string o.key,A o.a,A o.b,.bool o.yes]] w fun g D=>g=.returned (.bool true)/\xC w e F (f+1) D:=by
 obtain⟨x,r,E,told,cu,cw,N,I,P,kz,h⟩:=h;have p:=aa ((apY w.heap.size w).alloc (apX _) (.cells #[A o.kind,A o.r,A o.c,A o.d,A o.i1,A o.i2,A o.made,.string o.key,A o.a,A o.b,.bool o.yes] 87));have l:=aa (bI w (.cells #[A o.kind,A o.r,A o.c,A o.d,A o.i1,A o.i2,A o.made,.string o.key,A o.a,A o.b,.bool o.yes] 87));have s:=aa (bj h.blk p.o);have L:=aa (show ∀k,w.heap.size<=k->¬F k from fun k hk hF=>by have :=h.lt k hF;omega);have c9:=h.lt _ h.fA;have M:=aa h.blk;rcases C with g|g|g|g|g|g
 case' inl=>have j:=aa (fun W (i:J w W)=>amW h i o.c o.d)
 case' inr.inl=>have j:=aa (fun W (i:J w W)=>amX h i o.c o.d)
 case' inr.inr.inl=>have j:=aa (fun W (i:J w W)=>amY h i o.c o.d)
 case' inr.inr.inr.inl=>have j:=aa (fun W (i:J w W)=>amZ h i o.c o.d)
 case' inr.inr.inr.inr.inl=>have j:=aa (fun W (i:J w W)=>am0 h i o.c o.d)
 case' inr.inr.inr.inr.inr=>have j:=aa (fun W (i:J w W)=>am1 h i o.c o.d)
 all_goals(rw[g]at p l s⊢;clear h g)
 all_goals
  go_enter func70,ntmps70;go_wp2_with fail
  go_region_held3 (fun W=>W.cell? (H e)=some (Z x)/\W.cell? (K e 1)=some (Z r)/\W.cell? (V w 2)=some (A o.c)/\W.cell? (V w 3)=some (A o.d)) (first |exact CK s.o l.o|exact CK t.o n.o)
   (first |((first |go_at_call 27|go_at_call 39|go_at_call 41|go_at_call 42|go_at_call 43|go_at_call 120);refine(j.o _ p.o.drew).mono ?_;rintro g Q ⟨m,rfl,u,v,hS,y⟩;have t:=aa (u.trans M.o);have n:=aa ((v w.heap.size (aN l.o) (L.o _ (apX _))).trans l.o);have R:=aa y;clear u v y))
  go_wp2_with fail
  go_region_held3 (fun W=>W.cell? (H e)=some (Z x)/\W.cell? (K e 1)=some (Z r)/\W.cell? (V w 2)=some (A o.c)/\W.cell? (V w 3)=some (A o.d)) (first |exact CK t.o n.o|exact CK S.o U.o)
   (first |((first |go_at_call 113|go_at_call 114|go_at_call 117|go_at_call 118|go_at_call 119|go_at_call 121);refine(R.o _ (Loc.cJ ((apY _ Q).drew))).mono ?_;rintro g w2 ⟨rfl,⟨X,Y,gh,P',q,z,eM⟩,B⟩;have S:=aa q.blk;have U:=aa ((B w.heap.size (apX _) (.inl (by simp)) (aN n.o)).trans n.o);have jP:=aa q;have jS:=aa z;clear q z B eM))
  go_wp2;go_ret
  exact⟨rfl,X,⟨x,r,E,told,Y,gh,N,I,P',by omega,jP.o⟩,jS.o⟩
theorem Rel.drain{N:Nat}{M:Nat->List ar}{c d:Nat}(a:c<N)(b:d<N)(f:c≠d):∀(k:Nat) {s g:bn} {S:bP},Rel N M s S->ev N M s->gS N S->wh N s S->JP N c d k s g->Rel N M g (wg N c d k S)/\ev N M g/\wh N g (wg N c d k S)
 |0,_,_,_,h,ok,_,i,e=>by
  cases e;exact⟨h,ok,i⟩
 |k+1,s,g,S,h,ok,l,i,⟨o,j,n⟩=>by
  have m:=l.len d c b a;rw[<-(h.ms d c b a (aqa f)).len]at m;exact Rel.drain a b f k (h.Ad ok a b f m j) (ok.Ad a b f j) (l.S6 a b f) (i.Ad j) n
theorem am4{v x F I y P}{w:World}(h:fW b f d a c v x F I e y P)(r:J b w)(C D:Int):
  O 122 #[Z a,A C,A D] w fun g s=>∃n m,g=.returned (.tuple #[A n,A m])/\Duo b w f d a c v x e y 123 #[Z c,A C,A D] (.tuple #[A n,A m]) s:=by
 obtain⟨nI,nJ,iP,q,L,_⟩:=(h.ae r).eV;by_cases t:lo e C D
 ·obtain⟨i,j,l,o,p,rfl,rfl⟩:=t;have z:=(h.rel.rel.ms i j l o p).len;have B:=h.rel.rel.sh i j l o p;refine(alK q.m q.ok l o p).mono fun g s k=> ?_
  obtain⟨N,Q,R,U⟩:=k;obtain⟨hrel,W,X⟩:=h.rel.rel.drain l o p _ q.ok h.rel.mc h.rel.aQ R;refine⟨_,_,N,yU h r (P':=⟨P.M,Q,_⟩) (.ofM _ L W q.md U) ⟨hrel,S8 l o p _ h.rel.mc,h.rel.nice,X⟩ fun Y aH=> ?_⟩;obtain⟨aR,e5,I',jo,u,ab,_⟩:=aH;refine(ale u h.rel.mc i j l o p).mono fun g w2 k=>⟨?_,.of _ _ ab (vl:=jo.vl) ?_⟩
  ·rw[k.1,B,z]
  have :=k.2;rw[B,z];by_cases E:P.S.sh i j=true
  ·rw[if_pos E]at this⊢;omega
  rw[if_neg E]at this⊢;exact this
 exact(ajA q.m C D t).mono fun g s k=>⟨0,9,k.1,rC h r (by rw[k.2];exact apY _ _) fun Y _ _ _ _ u=>(alB u C D t).mono fun g w2 k=>⟨k.1,by rw[k.2];exact apY _ _⟩⟩
theorem am6{w F}(h:kI w e F f)(o:jX)(v:o.kind=15\/o.kind=20):
  O 70 #[Z e,.agg #[A o.kind,A o.r,A o.c,A o.d,A o.i1,A o.i2,A o.made,.string o.key,A o.a,A o.b,.bool o.yes]] w fun g y=>g=.returned (.bool true)/\xC w e F (f+1) y:=by
 obtain⟨x,r,z,told,cu,cw,N,B,P,kz,h⟩:=h;have l:=aa ((apY w.heap.size w).alloc (apX _) (.cells #[A o.kind,A o.r,A o.c,A o.d,A o.i1,A o.i2,A o.made,.string o.key,A o.a,A o.b,.bool o.yes] 87));have i:=aa (bI w (.cells #[A o.kind,A o.r,A o.c,A o.d,A o.i1,A o.i2,A o.made,.string o.key,A o.a,A o.b,.bool o.yes] 87));have q:=aa (bj h.blk l.o);have c9:=h.lt _ h.fA;rcases v with g|g
 case' inl=>have s:=aa (fun W (p:J w W)=>am2 h p o.c o.d)
 case' inr=>have s:=aa (fun W (p:J w W)=>am4 h p o.c o.d)
 all_goals(rw[g]at l i q⊢)
 all_goals
  go_enter func70,ntmps70;go_wp2_with fail
  go_region_held3 (fun W=>W.cell? (H e)=some (Z x)/\W.cell? (K e 1)=some (Z r)/\W.cell? (V w 2)=some (A o.c)/\W.cell? (V w 3)=some (A o.d)) (first |exact CK q.o i.o|exact CK t.o j.o)
   (first |((first |go_at_call 115|go_at_call 122);refine(s.o _ l.o.drew).mono ?_;rintro g C ⟨n,m,rfl,D,E,hS,I⟩;have t:=aa (D.trans h.blk);have j:=aa ((E w.heap.size (aN i.o) ((show ∀k,w.heap.size<=k->¬F k from fun k hk hF=>by have :=h.lt k hF;omega) _ (apX _))).trans i.o)))
  go_wp2_with fail
  go_region_held3 (fun W=>W.cell? (H e)=some (Z x)/\W.cell? (K e 1)=some (Z r)/\W.cell? (V w 2)=some (A o.c)/\W.cell? (V w 3)=some (A o.d)) (first |exact CK t.o j.o|exact CK L.o M.o)
   (first |((first |go_at_call 116|go_at_call 123);refine(I _ (Loc.cJ ((apY _ C).drew))).mono ?_;rintro g w2 ⟨rfl,⟨Q,R,S,U,u,X,eM⟩,Y⟩;have L:=aa u.blk;have M:=aa ((Y w.heap.size (apX _) (.inl (by simp)) (aN j.o)).trans j.o)))
  go_wp2;go_ret
  exact⟨rfl,Q,⟨x,r,z,told,R,S,N,B,U,by omega,u⟩,X⟩
theorem am7:EW 20:=fun w a F b h o c d=>by
 by_cases e:o.kind=15\/o.kind=20
 ·exact am6 h o e
 exact am3 h o (by omega)
end
end Go.Proofs.YtnkpogjiiohapaaGreatDoor
