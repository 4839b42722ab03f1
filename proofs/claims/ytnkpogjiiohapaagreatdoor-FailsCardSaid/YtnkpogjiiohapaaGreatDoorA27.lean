/- Our own text. -/
import Derived.Test.YtnkpogjiiohapaaGreatDoorA26
set_option linter.unusedSimpArgs false
set_option linter.unusedVariables false
set_option maxRecDepth 1000000
set_option maxHeartbeats 4000000
namespace Go.Proofs.YtnkpogjiiohapaaGreatDoor
section
open Go.RowKit Tryz
attribute [local go_sem ↓] Go.wp_at_zero Go.wp_at_succ
variable {a f j:Nat}{b:Nat->List ar}{c h:Nat->Prop}{d:World}{e:cI}{i:bn}
theorem Zg{c b:Value}{t:TypeId}(h:d.heap[a]?=some (.cells #[c,b] t (0,0)))(u v:Value)(o:Obj):(((d.setCell (H a) u).setCell (K a 1) v).alloc o).cell? (H a)=some u/\(((d.setCell (H a) u).setCell (K a 1) v).alloc o).cell? (K a 1)=some v:=
 bl (bj (YX h) ((apY _ _).alloc (apX _) _))
def nF (M:Nat->List ar) (s:bn) (c:Nat) (a:lg) (t:TypeId) (v:Value):Nat->List ar:=qK M c (kk c (s.gt c) (s.has c) a t v)
def Stepped (r N d:Nat) (F I:Nat->Prop) (w w':World) (e:Nat->Nat) (M:Nat->List ar) (s:bn) (b a:Nat->Prop) (c:cI):Prop:=dL w' r b a N d M s c/\c.eo=e/\c6 F b w w'/\(∀k,I k->a k)/\∀k,a k->I k\/w.heap.size<=k
def RQ (r N k:Nat) (F I:Nat->Prop) (w l:World) (m:Nat->Nat) (M:Nat->List ar) (s:bn) (c:Nat) (a:lg) (e:PId) (f:ByteArray) (g:PId) (h:dU):Prop:=
 s.has c c+2<=60/\∃t v b d i j,e1 (cq ((fg s c a t v).ops c)) b/\fH b/\d.Perm ((eZ b.1 b.2 e f g).aC.map (·.1))/\mX d/\
  qM r N k F I w l m (nF (nF M s c a t v) (fg s c a t v) c (.inr (.inr (.inl (e,f,g,h,d)))) i j) (fg (fg s c a t v) c (.inr (.inr (.inl (e,f,g,h,d)))) i j)
def aiC (r N f:Nat) (F I:Nat->Prop) (M:Nat->List ar) (s:bn) (x:cI) (c:Nat) (a b:Int) (d:ByteArray) (g:Bool) (w:World) (e:Ending) (w':World):Prop:=
 (∃m,(lS (cq (s.ops c)) (a,b) d=.error m\/(m=8/\(∃o,bt (cq (s.ops c)) (a,b)=some o/\o.list=false/\kr d=true)/\¬s.has c c+2<=60))/\e=.returned (.tuple #[.agg #[A 0,A 0],A m])/\qM r N f F I w w' x.eo M s)\/
 (∃o,bt (cq (s.ops c)) (a,b)=some o/\o.list=false/\kr d=true/\e=.returned (.tuple #[.agg #[A (s.gt c+1),A c],A 0])/\RQ r N f F I w w' x.eo M s c (.inl g) (a,b) d (0,0) (0,(s.gt c+1,(c:Int))))
theorem dL.step{w r F s w' chg}(d:dL w r F h a f b s e){c:Nat}(g:c<a)(D:s.has c c<60)(o:I1 (b c) chg)(p:yI (e.h8 c) h a f c (e.eo c) (s.gt c) (s.has c) (s.kept c) (s.early c) (e.q c) w w' chg):∃t v k i j,Stepped r a f F h w w' e.eo (nF b s c chg t v) (fg s c chg t v) k i j:=by
 obtain⟨t,v,k,i,E,u,x,y,l,n⟩:=p;obtain⟨j,z,B,C,_⟩:=d.m.RB g u y l n x (ops':=s.ops c++[kk c (s.gt c) (s.has c) chg t v]) (by rw[d.m.l3 c g,aqs]);have I:=d.ok.own c g;exact⟨t,v,_,i,j,⟨z,d.ok.wrote g (by omega) chg t v,d.md.wrote o⟩,C,B,l,n⟩
theorem dL.set{sp}(l:dL d a c h f sp b i e){g:Nat}(u:Value)(p:¬c g)(q:¬h g):dL (d.setCell (K g j) u) a c h f sp b i e:=
 ⟨l.m.gw (by simp) (fun k o=>dy (fun n=>p (n▸o))) (fun k o=>dy (fun n=>q (n▸o))),l.ok,l.md⟩
theorem RR{M s x z C u Y s1 D E v w x1}{W B:World}(l:dL d a c h f j M s x)(F:J d W)(al:Stepped a f j c h W z u Y s1 D E x1)(I:J z B)(b1:Stepped a f j D E B C u b i v w e){g:Nat}(L:d.heap.size<=g)(Oz:g<W.heap.size)(n o:Value):
  qM a f j c h d ((C.setCell (H g) n).setCell (K g 1) o) u b i:=by
 obtain⟨b2,a2,y,a4,N⟩:=al;obtain⟨bx,bU,P,I2,Q⟩:=b1;have ad:=y.size;have RN:=I.size;have R:¬v g:=fun hF=>by
  rcases P.sub g hF with q|q
  ·rcases y.sub g q with r|r
   ·have :=l.m.lt g r;omega
   omega
  omega
 have S:¬w g:=fun hF=>by
  rcases Q g hF with q|q
  ·rcases N g q with r|r
   ·have :=l.m.cx g r;omega
   omega
  omega
 have U:=((y.before F).after I).trans P;refine⟨v,w,e,(bx.set n R S).set o R S,bU,(U.vz L n).vz L o,fun k t=>⟨I2 k (a4 k t),?_⟩,fun k t=> ?_⟩
 ·have X:k≠g:=fun p=>by have :=l.m.cx k t;omega
  rw[dy X,dy X];exact U.other k (l.m.cx k t) (l.m.eC k t)
 rcases Q k t with q|q
 ·exact(N k q).imp id fun r=>ap0 F.size r
 omega
theorem aiD{S}(l:dL d f c h j S b i e)(w:a<j)(s u:Int)(x:ByteArray)(dW:x.size<=maxLen)(y:Bool):
  O 38 #[Z f,A a,.agg #[A s,A u],.string x,.bool y] d fun n w'=>aiC f j S c h b i e a s u x y d n w':=by
 have U:=((apY d.heap.size d).alloc (apX _) (.cells #[A s,A u] 36)).alloc (by simp) (.cells #[A 0,A 0] 36);have l7:=show((d.alloc (.cells #[A s,A u] 36)).alloc (.cells #[A 0,A 0] 36)).heap[d.heap.size+1]?=some (.cells #[A 0,A 0] 36 (0,0)) from(by
  have :=bI (d.alloc (.cells #[A s,A u] 36)) (.cells #[A 0,A 0] 36)
  simp_all)
 have bY:=MP (l.ae U) a w s u x dW;have X:=show ∀k,d.heap.size<=k->¬c k from fun k hk hF=>by have :=l.m.lt k hF;omega
 have bJ:=fun W (D:J d W)=>Iv ((l.ae D).m.eK a w) 2 (by omega)
 have oF:=fun W (D:J d W)=>YV ((l.ae D).m.eK a w) (l.uN w) y
 have o7:=fun W (D:J d W) (w':World) (B:i.has a a<60) hw=>(l.ae D).step (w':=w') w B (chg:=.inl y) trivial hw
 have Y:=l;go_enter func38,ntmps38;go_wp2_with fail
 refine bY.mono ?_;rintro n E ⟨C,dX⟩;have F:=bj l7 C;have ay:=U.trans (C.mono U.size);have hz1:=ay.size;have vq:=aN F;rcases dX with⟨m,hm,ah,rfl⟩|⟨o,af,bz,mL,fr,rfl⟩
 ·have cT:=ah;obtain⟨y0,y1⟩:=bl F;have nQ:=cG F;have RS:=World.new_ne E (H (d.heap.size+1)) y0;obtain⟨z0,z1⟩:=Zg F (A 0) (A 0) (.cells #[A 0,A 0,.string ⟨#[]⟩,A 0,A 0] 97);have aiE:∀p q,qM f j S c h d (((E.setCell (H (d.heap.size+1)) p).setCell (K (d.heap.size+1) 1) q).alloc (.cells #[A 0,A 0,.string ⟨#[]⟩,A 0,A 0] 97)) e.eo b i:=fun p q=>Y.left (((ay.setCell (show d.heap.size<=d.heap.size+1 by omega) _).setCell (show d.heap.size<=d.heap.size+1 by omega) _).alloc (by simp[World.setCell];omega) _)
  have qL:=aiE;rcases hm with rfl|rfl|rfl
  ·go_wp2;refine bodyPost_ret (v:=.tuple #[.agg #[A 0,A 0],A 3]) (by simp[results,results38,go_sem,z0,z1]) rfl ?_;exact(show _\/_ from .inl ⟨3,.inl cT,rfl,qL _ _⟩)
  ·go_wp2;refine bodyPost_ret (v:=.tuple #[.agg #[A 0,A 0],A 4]) (by simp[results,results38,go_sem,z0,z1]) rfl ?_;exact(show _\/_ from .inl ⟨4,.inl cT,rfl,qL _ _⟩)
  go_wp2;refine bodyPost_ret (v:=.tuple #[.agg #[A 0,A 0],A 5]) (by simp[results,results38,go_sem,z0,z1]) rfl ?_;exact(show _\/_ from .inl ⟨5,.inl cT,rfl,qL _ _⟩)
 have P:=And.intro af (And.intro bz mL);have dv:=ay.alloc hz1 (.cells #[A s,A u,.string x,A 0,A 0] 97);have bW:=bI E (.cells #[A s,A u,.string x,A 0,A 0] 97);go_wp2_with fail
 refine(bJ _ dv).mono ?_;rintro n w2 ⟨rfl,I⟩;have cB:=bj bW I;have L:=bj (bj F ((apY _ E).alloc (apX _) _)) I;have Q:=dv.trans (I.mono dv.size);have lX:=aN L;obtain⟨y0,y1⟩:=bl L;have nQ:=cG L;by_cases B:i.has a a+2<=60
 ·have ai:decide (i.has a a+((2:Nat):Int)<=60)=true:=decide_eq_true B;rw[ai];have M:=aa B;go_wp2_with fail
  refine(oF w2 Q).mono ?_;rintro n z ⟨rfl,gn⟩;obtain⟨t,v,iK,ln,iP,al⟩:=o7 w2 Q z (by have :=M.o;omega) gn;have r:=al;have ek:=(r.2.2.1.other _ (aN cB) (X _ hz1)).trans cB;have p4:=(r.2.2.1.other _ (aN L) (X _ (by omega))).trans L;obtain⟨e7,gm,k3,np,rR⟩:=gb ek;have Ja:=aN ek;have pr:=aN p4;have pM:=World.new_ne z (V E 0) e7;have N:=(apY z.heap.size z).alloc (apX _) (.cells #[A (i.gt a+1),A a] 36);have Ce:=aa (MJ ((r.1.ae N).m.eK a w) (r.1.uN w) (s,u) (0,0) x (0,(i.gt a+1,(a:Int))));rw[r.2.1]at Ce;go_wp2_with fail
  refine Ce.o.mono ?_;rintro n w4 ⟨⟨iC,rfl⟩,ss,ah,av,gQ⟩;rw[<-r.2.1]at gQ;have DZ:(fg i a (.inl y) t v).has a a<60:=by
   show upd i.has a (upd (i.has a) a (i.has a a+1)) a a<60;rw[bF,bF];have :=M.o;omega
  obtain⟨mh,v',jk,n3,MS,R⟩:=(r.1.ae N).step w DZ (chg:=.inr (.inr (.inl ((s,u),x,(0,0),(0,(i.gt a+1,(a:Int))),ss)))) ⟨fun _=>rfl,.inr ⟨kk a (i.gt a) (i.has a) (.inl y) t v,by rw[nF,oa];simp,rfl,y,rfl⟩⟩ gQ;have wB:=r.1.doc w;have k4:=And.intro ah av;rw[r.2.1]at R;have fy:=fun p q=>RR Y Q r N R (g:=d.heap.size+1) (by omega) lX p q
  have Cf:¬iK (d.heap.size+1):=fun hF=>by
   rcases r.2.2.1.sub _ hF with l|l
   ·exact X _ (by omega) l
   omega
  have RT:¬iK z.heap.size:=fun hF=>by have :=r.1.m.lt _ hF;omega
  have C:=(R.2.2.1.other _ (aN (bj p4 N)) Cf).trans (bj p4 N);have I:=(R.2.2.1.other _ (aN (bI z _)) RT).trans (bI z _);obtain⟨fz,eP⟩:=bl C;obtain⟨jx,q1⟩:=bl I;have kR:=cG C;have F4:=aN C;go_wp2;refine bodyPost_ret (v:=.tuple #[.agg #[A (i.gt a+1),A a],A 0]) (by simp[results,results38,go_sem,fz,eP]) rfl ?_;exact(show _\/_ from .inr ⟨o,P.1,P.2.1,P.2.2,rfl,M.o,t,v,_,ss,mh,v',wB.1,wB.2.1,k4.1,k4.2,fy _ _⟩)
 have ai:decide (i.has a a+((2:Nat):Int)<=60)=false:=decide_eq_false B;rw[ai];have M:=aa B;go_wp2;refine bodyPost_ret (v:=.tuple #[.agg #[A 0,A 0],A 8]) (by simp[results,results38,go_sem,y0,y1]) rfl ?_;exact(show _\/_ from .inl ⟨8,.inr ⟨rfl,⟨o,P⟩,Int.not_le.2 M.o⟩,rfl,Y.left ((Q.setCell (show d.heap.size<=d.heap.size+1 by omega) _).setCell (show d.heap.size<=d.heap.size+1 by omega) _)⟩)
def aiF (r N f:Nat) (F I:Nat->Prop) (M:Nat->List ar) (s:bn) (x:cI) (c:Nat) (a d i n:Int) (w:World) (e:Ending) (g:World):Prop:=
 (∃m,(iF (cq (s.ops c)) (a,d)=.error m\/(m=7/\∃o,bt (cq (s.ops c)) (a,d)=some o/\o.list=true/\jN (dB o) i=none)\/(m=8/\(∃o b,bt (cq (s.ops c)) (a,d)=some o/\o.list=true/\jN (dB o) i=some b)/\¬s.has c c+2<=60))/\e=.returned (.tuple #[.agg #[A 0,A 0],A m])/\qM r N f F I w g x.eo M s)\/
 (∃o b,bt (cq (s.ops c)) (a,d)=some o/\o.list=true/\jN (dB o) i=some b/\e=.returned (.tuple #[.agg #[A (s.gt c+1),A c],A 0])/\RQ r N f F I w g x.eo M s c (.inr (.inl ((a,d),b))) (a,d) ⟨#[]⟩ (s.gt c+1,(c:Int)) (n,(0,0)))
theorem aiG{I M}(l:dL d a h I f j M i e){c:Nat}(x:c<f)(s u q n:Int):
  O 32 #[Z a,A c,.agg #[A s,A u],A q,A n] d fun p w'=>aiF a f j h I M i e c s u q n d p w':=by
 have aK:=((apY d.heap.size d).alloc (apX _) (.cells #[A s,A u] 36)).alloc (by simp) (.cells #[A 0,A 0] 36);have c2:=show((d.alloc (.cells #[A s,A u] 36)).alloc (.cells #[A 0,A 0] 36)).heap[d.heap.size]?=some (.cells #[A s,A u] 36 (0,0)) from(hK _ _ (by simp)).trans (bI d _)
 have l7:=show((d.alloc (.cells #[A s,A u] 36)).alloc (.cells #[A 0,A 0] 36)).heap[d.heap.size+1]?=some (.cells #[A 0,A 0] 36 (0,0)) from(by
  have :=bI (d.alloc (.cells #[A s,A u] 36)) (.cells #[A 0,A 0] 36)
  simp_all)
 have bY:=Ze (l.ae aK) c x s u q;have gx:=show ∀k,d.heap.size<=k->¬h k from fun k hk hF=>by have :=l.m.lt k hF;omega
 have bJ:=fun W (y:J d W)=>Iv ((l.ae y).m.eK c x) 2 (by omega)
 have oF:=fun W (y:J d W) o (P:bt (cq (i.ops c)) (s,u)=some o) (Q:o.list=true) b (R:jN (dB o) q=some b)=>Y0 ((l.ae y).m.eK c x) (l.uN x) (l.ko x) P Q (l.hr x P Q) q R
 have o7:=fun W (y:J d W) (w':World) (D:i.has c c<60) b hw=>(l.ae y).step (w':=w') x D (chg:=.inr (.inl ((s,u),b))) trivial hw
 have az:=l;go_enter func32,ntmps32;go_wp2_with fail
 refine bY.mono ?_;rintro p w1 ⟨z,dX⟩;have bW:=bj c2 z;have E:=bj l7 z;have B:=aK.trans (z.mono aK.size);have hz1:=B.size;have vq:=aN E;have wG:=show ∀W,J d W->∀r b,qM a f j h I d ((W.setCell (H (d.heap.size+1)) r).setCell (K (d.heap.size+1) 1) b) e.eo M i from fun W y r b=>az.left ((y.setCell (show d.heap.size<=d.heap.size+1 by omega) _).setCell (show d.heap.size<=d.heap.size+1 by omega) _)
 rcases dX with⟨m,hm,ah,rfl⟩|⟨o,P,Q,ej,⟨R,rfl⟩|⟨b,R,rfl⟩⟩
 ·have cT:=aa ah;obtain⟨F,L⟩:=bl E;have nQ:=cG E;rcases hm with rfl|rfl
  ·go_wp2;refine bodyPost_ret (v:=.tuple #[.agg #[A 0,A 0],A 3]) (by simp[results,results32,go_sem,F,L]) rfl ?_;exact(show _\/_ from .inl ⟨3,.inl cT.o,rfl,wG _ B _ _⟩)
  go_wp2;refine bodyPost_ret (v:=.tuple #[.agg #[A 0,A 0],A 4]) (by simp[results,results32,go_sem,F,L]) rfl ?_;exact(show _\/_ from .inl ⟨4,.inl cT.o,rfl,wG _ B _ _⟩)
 ·have cT:=aa (And.intro P (And.intro Q R));obtain⟨F,L⟩:=bl E;have nQ:=cG E;go_wp2;refine bodyPost_ret (v:=.tuple #[.agg #[A 0,A 0],A 7]) (by simp[results,results32,go_sem,F,L]) rfl ?_;exact(show _\/_ from .inl ⟨7,.inr (.inl ⟨rfl,o,cT.o⟩),rfl,wG _ B _ _⟩)
 have C:=And.intro P (And.intro Q R);go_wp2_with fail
 refine(bJ _ B).mono ?_;rintro p w2 ⟨rfl,S⟩;have cB:=bj bW S;have U:=bj E S;have bd:=B.trans (S.mono B.size);have lX:=aN U;obtain⟨F,L⟩:=bl U;have nQ:=cG U;by_cases D:i.has c c+2<=60
 ·have ai:decide (i.has c c+((2:Nat):Int)<=60)=true:=decide_eq_true D;rw[ai];have X:=aa D;obtain⟨I5,I6⟩:=bl cB;go_wp2_with fail
  refine(oF w2 bd o C.1 C.2.1 b C.2.2).mono ?_;rintro p N ⟨rfl,gn⟩;obtain⟨t,v,iK,ln,iP,al⟩:=o7 w2 bd N (by have :=X.o;omega) b gn;have w:=al;have ek:=(w.2.2.1.other _ (aN cB) (gx _ (apX _))).trans cB;have p4:=(w.2.2.1.other _ (aN U) (gx _ (by omega))).trans U;obtain⟨e7,gm⟩:=bl ek;have Ja:=aN ek;have pr:=aN p4;have pM:=World.new_ne N (V d 0) e7;have o6:=(apY N.heap.size N).alloc (apX _) (.cells #[A (i.gt c+1),A c] 36);go_wp2_with fail
  refine(MM _ _ _ _ _).mono ?_;rintro p w4 ⟨rfl,gp⟩;have uO:=bj (bI N (.cells #[A (i.gt c+1),A c] 36)) gp;have Y:=o6.trans (gp.mono o6.size);have Ce:=aa (MJ ((w.1.ae Y).m.eK c x) (w.1.uN x) (s,u) (i.gt c+1,(c:Int)) ⟨#[]⟩ (n,(0,0)));rw[w.2.1]at Ce;have fO:=aa (bj ek Y);have nt:=bj p4 Y;obtain⟨cC,aj⟩:=bl uO;have he4:=aN uO;go_wp2_with fail
  refine Ce.o.mono ?_;rintro p w5 ⟨⟨iC,rfl⟩,ss,ah,av,td⟩;rw[<-w.2.1]at td;have DZ:(fg i c (.inr (.inl ((s,u),b))) t v).has c c<60:=by
   show upd i.has c (upd (i.has c) c (i.has c c+1)) c c<60;rw[bF,bF];have :=X.o;omega
  obtain⟨mh,v',jk,n3,MS,b1⟩:=(w.1.ae Y).step x DZ (chg:=.inr (.inr (.inl ((s,u),⟨#[]⟩,(i.gt c+1,(c:Int)),(n,(0,0)),ss)))) ⟨fun bp=>absurd rfl bp,.inl rfl⟩ td;have wB:=w.1.doc x;have k4:=And.intro ah av;rw[w.2.1]at b1;have fy:=fun r b=>RR az bd w Y b1 (g:=d.heap.size+1) (by omega) lX r b
  have Cf:¬iK (d.heap.size+1):=fun hF=>by
   rcases w.2.2.1.sub _ hF with l|l
   ·exact gx _ (by omega) l
   omega
  have RT:¬iK N.heap.size:=fun hF=>by have :=w.1.m.lt _ hF;omega
  have z:=(b1.2.2.1.other _ (aN nt) Cf).trans nt;have S:=(b1.2.2.1.other _ (aN uO) RT).trans uO;obtain⟨fz,eP⟩:=bl z;obtain⟨jx,q1⟩:=bl S;have kR:=cG z;have F4:=aN z;have xi:=aN nt;go_wp2;refine bodyPost_ret (v:=.tuple #[.agg #[A (i.gt c+1),A c],A 0]) (by simp[results,results32,go_sem,fz,eP]) rfl ?_;exact(show _\/_ from .inr ⟨o,b,C.1,C.2.1,C.2.2,rfl,X.o,t,v,_,ss,mh,v',wB.1,wB.2.1,k4.1,k4.2,fy _ _⟩)
 have ai:decide (i.has c c+((2:Nat):Int)<=60)=false:=decide_eq_false D;rw[ai];have X:=aa D;go_wp2;refine bodyPost_ret (v:=.tuple #[.agg #[A 0,A 0],A 8]) (by simp[results,results32,go_sem,F,L]) rfl ?_;exact(show _\/_ from .inl ⟨8,.inr (.inr ⟨rfl,⟨o,b,C⟩,Int.not_le.2 X.o⟩),rfl,wG _ bd _ _⟩)
end
end Go.Proofs.YtnkpogjiiohapaaGreatDoor
