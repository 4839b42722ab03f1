/- Our own text. -/
import Derived.Deep.RegionWith
import Derived.Test.YtnkpogjiiohapaaGreatDoorA03
set_option linter.unusedSimpArgs false
set_option linter.unusedVariables false
set_option maxRecDepth 1000000
set_option maxHeartbeats 3200000
namespace Go.Proofs.YtnkpogjiiohapaaGreatDoor
open Go.RowKit Tryz
variable {a d i:Nat}{b:Nat->Bool}{e:List PId}{f k:List bu}{h:World}{j:Int}
theorem abR(B t d:Nat)(v:Value)(b:List dA)(N:t<100000)(k:Value)(q:List PId)(r s kind c f u x y z n C D:Int)(E:Bool)(F:ByteArray)(w:World)(h:fq B t w d v b)(g:er w k q)(P:¬kind=1)(Q:cK (lo (c,f)) b= -1):
  O 192 #[Z d,.agg #[A r,A s,A kind,.bool E,A c,A f,.string F,A u,A x,A y,A z,A n,A C,A D,k]] w fun e l=>
   e=.returned (.tuple #[])/\fq B t l d v b/\mc B w l:=by
 obtain⟨R,S,rfl,_,_,_⟩:=bp g;have U:=h.lt;have I:B<=w.heap.size:=by have :=h.hB;omega
 have i:=aa h;have W:=aa g;clear g;obtain⟨a,L,rfl,_,_,_⟩:=bp h.ae.1;have X:=h.cell;clear h;go_enter func192,ntmps192;go_wp2_with (go_at_call 174;go_must (refine(B8 B d (.slice a b.length L) b c f _ ?au ?ab).mono ?_;(case au=>exact(i.o.af ((aoQ w.heap.size w).alloc (aoP _) _)).cell);(case ab=>exact(i.o.af ((aoQ w.heap.size w).alloc (aoP _) _)).ae);rintro e M ⟨rfl,m⟩;have j:J w M:=((aoQ w.heap.size w).alloc (aoP _) _).trans (m.mono (by simp));clear m;have Y:=j.size;have p:=aa j;clear j))
 refine bodyPost_ret (results_none rfl _ _ _) rfl ?_;exact⟨rfl,i.o.af p.o,mc.cQ p.o I⟩
theorem abS(B t d:Nat)(v:Value)(c:List dA)(aF:t<100000)(s:Value)(u:List PId)(x y kind g i z C D E n F I:Int)(L:Bool)(M:ByteArray)(w:World)(h:fq B t w d v c)(l:er w s u)(c3:¬kind=1)(k:Nat)(W:k<c.length)(sl:cK (lo (g,i)) c=(k:Int))(X:kind=2)(Y:c[k].list=false):
  O 192 #[Z d,.agg #[A x,A y,A kind,.bool L,A g,A i,.string M,A z,A C,A D,A E,A n,A F,A I,s]] w fun e N=>
   e=.returned (.tuple #[])/\fq B t N d v c/\mc B w N:=by
 obtain⟨jn,co,rfl,_,_,_⟩:=bp l;have gP:=h.lt;have hBw:B<=w.heap.size:=by have :=h.hB;omega
 have m:=aa h;have tE:=aa l;clear l;obtain⟨p,cap,cj,aH,Cn,q,yB,dh,gv,nG,r,P⟩:=h.row W;unfold maxLen at dh;subst aH;have Q:=h.cell;have j:w.cell? (K p (k*4+2))=some (.bool c[k].list):=by simp[World.cell?,q,r]
 have Ey:p<w.heap.size:=ao4 w _ j;have R:=(h.ad c[k] (aoY _));have S:=h.ae.2.1 c[k] (aoY _);have k4:=aa R;clear R;have lO:=aa S;clear S;have nC:=aa q;clear q;have nH:=aa r;clear r;have rv:=aa P;clear P;clear gv nG;rw[Y]at j;have ko:=aa Q;have oC:=aa j;subst X;clear h;go_enter func192,ntmps192;go_wp2_with (go_at_call 174;go_must (refine(B8 B d (.slice (some (H p)) c.length cap) c g i _ ?au ?ab).mono ?_;(case au=>exact(m.o.af ((aoQ w.heap.size w).alloc (aoP _) _)).cell);(case ab=>exact(m.o.af ((aoQ w.heap.size w).alloc (aoP _) _)).ae);rintro e w1 ⟨rfl,b⟩;have f:J w w1:=((aoQ w.heap.size w).alloc (aoP _) _).trans (b.mono (by simp));have sn:=af (a:=(V w 0)) (v:=A x) b (by simp[go_sem]);have Cd:=af (a:=(V w 1)) (v:=A y) b (by simp[go_sem]);have Ce:=af (a:=(V w 2)) (v:=A 2) b (by simp[go_sem]);have NI:=af (a:=(V w 3)) (v:=.bool L) b (by simp[go_sem]);have NJ:=af (a:=(V w 4)) (v:=A g) b (by simp[go_sem]);have NK:=af (a:=(V w 5)) (v:=A i) b (by simp[go_sem]);have GC:=af (a:=(V w 6)) (v:=.string M) b (by simp[go_sem]);have NL:=af (a:=(V w 7)) (v:=A z) b (by simp[go_sem]);have NM:=af (a:=(V w 8)) (v:=A C) b (by simp[go_sem]);have NN:=af (a:=(V w 9)) (v:=A D) b (by simp[go_sem]);have NP:=af (a:=(V w 10)) (v:=A E) b (by simp[go_sem]);have Cf:=af (a:=(V w 11)) (v:=A n) b (by simp[go_sem]);have Cg:=af (a:=(V w 12)) (v:=A F) b (by simp[go_sem]);have Ch:=af (a:=(V w 13)) (v:=A I) b (by simp[go_sem]);have Ep:=af (a:=(V w 14)) (v:=.slice jn u.length co) b (by simp[go_sem]);replace Q:=af f ko.o;replace j:=af f oC.o;clear b;have hz1:=f.size;have U:=aa f;clear f))
 refine bodyPost_ret (results_none rfl _ _ _) rfl ?_;exact⟨rfl,m.o.af U.o,mc.cQ U.o hBw⟩
theorem abT(B t d:Nat)(v:Value)(b:List dA)(aF:t<100000)(E:Value)(F:List PId)(f g kind q r I L i j n M N:Int)(P:Bool)(Q:ByteArray)(w:World)(h:fq B t w d v b)(x:er w E F)(c3:¬kind=1)(k:Nat)(R:k<b.length)(sl:cK (lo (q,r)) b=(k:Int))(cF:kind=2)(hl:b[k].list=true):
  O 192 #[Z d,.agg #[A f,A g,A kind,.bool P,A q,A r,.string Q,A I,A L,A i,A j,A n,A M,A N,E]] w fun e S=>
   e=.returned (.tuple #[])/\(∃v',fq B (t+1) S d v (b.set k ⟨b[k].id,b[k].list,v',vD b[k].ss (i,j) (f,g)⟩))/\mc B w S:=by
 obtain⟨jn,co,rfl,_,_,_⟩:=bp x;have gP:=h.lt;have hBw:B<=w.heap.size:=by have :=h.hB;omega
 have y:=aa h;have tE:=aa x;clear x;obtain⟨l,cap,cj,aH,Cn,z,yB,dh,gv,nG,C,U⟩:=h.row R;unfold maxLen at dh;subst aH;have W:=h.cell;have u:w.cell? (K l (k*4+2))=some (.bool b[k].list):=by simp[World.cell?,z,C]
 have X:l<w.heap.size:=ao4 w _ u;have Y:=(h.ad b[k] (aoY _));have kl:=h.ae.2.1 b[k] (aoY _);have D:=aa Y;clear Y;have lO:=aa kl;clear kl;have nC:=aa z;clear z;have nH:=aa C;clear C;have rv:=aa U;clear U;clear gv nG;rw[hl]at u;have ko:=aa W;have oC:=aa u;subst cF;clear h;go_enter func192,ntmps192;go_wp2_with (first
  |(go_at_call 174;go_must (refine(B8 B d (.slice (some (H l)) b.length cap) b q r _ ?au ?ab).mono ?_;(case au=>exact(y.o.af ((aoQ w.heap.size w).alloc (aoP _) _)).cell);(case ab=>exact(y.o.af ((aoQ w.heap.size w).alloc (aoP _) _)).ae);rintro e w1 ⟨rfl,c⟩;have m:J w w1:=((aoQ w.heap.size w).alloc (aoP _) _).trans (c.mono (by simp));have sn:=af (a:=(V w 0)) (v:=A f) c (by simp[go_sem]);have Cd:=af (a:=(V w 1)) (v:=A g) c (by simp[go_sem]);have Ce:=af (a:=(V w 2)) (v:=A 2) c (by simp[go_sem]);have NI:=af (a:=(V w 3)) (v:=.bool P) c (by simp[go_sem]);have NJ:=af (a:=(V w 4)) (v:=A q) c (by simp[go_sem]);have NK:=af (a:=(V w 5)) (v:=A r) c (by simp[go_sem]);have GC:=af (a:=(V w 6)) (v:=.string Q) c (by simp[go_sem]);have NL:=af (a:=(V w 7)) (v:=A I) c (by simp[go_sem]);have NM:=af (a:=(V w 8)) (v:=A L) c (by simp[go_sem]);have NN:=af (a:=(V w 9)) (v:=A i) c (by simp[go_sem]);have NP:=af (a:=(V w 10)) (v:=A j) c (by simp[go_sem]);have Cf:=af (a:=(V w 11)) (v:=A n) c (by simp[go_sem]);have Cg:=af (a:=(V w 12)) (v:=A M) c (by simp[go_sem]);have Ch:=af (a:=(V w 13)) (v:=A N) c (by simp[go_sem]);have Ep:=af (a:=(V w 14)) (v:=.slice jn F.length co) c (by simp[go_sem]);replace W:=af m ko.o;replace u:=af m oC.o;clear c;have hz1:=m.size;have p:=aa m;clear m))
  |(go_at_call 214;go_must (refine(abK B l (k*4) cj b[k].gY b[k].ss i j f g w1 ?au ?ab ?hc ?ai ?he).mono ?_;(case au=>rw[p.o.block l X];exact nC.o);(case ab=>exact rv.o);(case hc=>exact lO.o.af p.o);(case ai=>have :=D.o.1;omega);(case he=>omega);rintro e w2 ⟨rfl,hu⟩;have gi:=aa ((y.o.af p.o).upd R rfl (by rw[p.o.block l X];exact nC.o) hu (by have :=(Tw b[k].ss (i,j) (f,g)).1;have :=D.o.1;omega) (fun s ad=>by rcases(Tw b[k].ss (i,j) (f,g)).2 s ad with h|h;(have :=D.o.2 s h;omega);(rw[h];simp)));clear hu)))
 refine bodyPost_ret (results_none rfl _ _ _) rfl ?_;exact⟨rfl,gi.o.1,(mc.cQ p.o hBw).trans gi.o.2⟩
theorem abU(B t d:Nat)(v:Value)(c:List dA)(aF:t<100000)(x:Value)(y:List PId)(z C kind g i D E F I n L M:Int)(N:Bool)(l:ByteArray)(w:World)(h:fq B t w d v c)(m:er w x y)(c3:¬kind=1)(k:Nat)(X:k<c.length)(sl:cK (lo (g,i)) c=(k:Int))(cF:¬kind=2)(p:Bool)(Y:c[k].list=p)(he:l.toList.isEmpty= !p):
  O 192 #[Z d,.agg #[A z,A C,A kind,.bool N,A g,A i,.string l,A D,A E,A F,A I,A n,A L,A M,x]] w fun e P=>
   e=.returned (.tuple #[])/\fq B t P d v c/\mc B w P:=by
 obtain⟨jn,co,rfl,_,_,_⟩:=bp m;have gP:=h.lt;have hBw:B<=w.heap.size:=by have :=h.hB;omega
 have q:=aa h;have tE:=aa m;clear m;obtain⟨r,cap,cj,aH,Cn,s,yB,dh,gv,nG,u,Q⟩:=h.row X;unfold maxLen at dh;subst aH;have R:=h.cell;have j:w.cell? (K r (k*4+2))=some (.bool c[k].list):=by simp[World.cell?,s,u]
 have Ey:r<w.heap.size:=ao4 w _ j;have S:=(h.ad c[k] (aoY _));have U:=h.ae.2.1 c[k] (aoY _);have k4:=aa S;clear S;have lO:=aa U;clear U;have nC:=aa s;clear s;have nH:=aa u;clear u;have rv:=aa Q;clear Q;clear gv nG;rw[Y]at j;have ko:=aa R;have oC:=aa j;clear h;go_enter func192,ntmps192;go_wp2_with (go_at_call 174;go_must (refine(B8 B d (.slice (some (H r)) c.length cap) c g i _ ?au ?ab).mono ?_;(case au=>exact(q.o.af ((aoQ w.heap.size w).alloc (aoP _) _)).cell);(case ab=>exact(q.o.af ((aoQ w.heap.size w).alloc (aoP _) _)).ae);rintro e w1 ⟨rfl,b⟩;have f:J w w1:=((aoQ w.heap.size w).alloc (aoP _) _).trans (b.mono (by simp));have sn:=af (a:=(V w 0)) (v:=A z) b (by simp[go_sem]);have Cd:=af (a:=(V w 1)) (v:=A C) b (by simp[go_sem]);have Ce:=af (a:=(V w 2)) (v:=A kind) b (by simp[go_sem]);have NI:=af (a:=(V w 3)) (v:=.bool N) b (by simp[go_sem]);have NJ:=af (a:=(V w 4)) (v:=A g) b (by simp[go_sem]);have NK:=af (a:=(V w 5)) (v:=A i) b (by simp[go_sem]);have GC:=af (a:=(V w 6)) (v:=.string l) b (by simp[go_sem]);have NL:=af (a:=(V w 7)) (v:=A D) b (by simp[go_sem]);have NM:=af (a:=(V w 8)) (v:=A E) b (by simp[go_sem]);have NN:=af (a:=(V w 9)) (v:=A F) b (by simp[go_sem]);have NP:=af (a:=(V w 10)) (v:=A I) b (by simp[go_sem]);have Cf:=af (a:=(V w 11)) (v:=A n) b (by simp[go_sem]);have Cg:=af (a:=(V w 12)) (v:=A L) b (by simp[go_sem]);have Ch:=af (a:=(V w 13)) (v:=A M) b (by simp[go_sem]);have Ep:=af (a:=(V w 14)) (v:=.slice jn y.length co) b (by simp[go_sem]);replace R:=af f ko.o;replace j:=af f oC.o;clear b;have hz1:=f.size;have W:=aa f;clear f))
 cases p
 all_goals go_region
 all_goals(try go_wp2)
 all_goals go_end0
 all_goals exact⟨rfl,q.o.af W.o.drew,mc.cQ W.o.drew hBw⟩
theorem abV(B t d:Nat)(v:Value)(b:List dA)(aF:t<100000)(X:Value)(j:List PId)(l m kind q r s u F I n x y:Int)(L:Bool)(g:ByteArray)(w:World)(h:fq B t w d v b)(P:er w X j)(c3:¬kind=1)(k:Nat)(Y:k<b.length)(sl:cK (lo (q,r)) b=(k:Int))(cF:¬kind=2)(Q:Bool)(hl:b[k].list=Q)(he:g.toList.isEmpty=Q):
  O 192 #[Z d,.agg #[A l,A m,A kind,.bool L,A q,A r,.string g,A s,A u,A F,A I,A n,A x,A y,X]] w fun e z=>
   e=.returned (.tuple #[])/\(∃D i,fq B (t+1) z d v (b.set k ⟨b[k].id,b[k].list,D,i⟩)/\i.map bD.p=kN (b[k].ss.map bD.p) b[k].list g (s,u) j kind ⟨(l,m),n,(x,y)⟩)/\mc B w z:=by
 obtain⟨jn,co,rfl,_,_,_⟩:=bp P;have gP:=h.lt;have hBw:B<=w.heap.size:=by have :=h.hB;omega
 have R:=aa h;have tE:=aa P;clear P;obtain⟨f,cap,cj,aH,Cn,S,yB,dh,gv,nG,U,iU⟩:=h.row Y;unfold maxLen at dh;subst aH;have ag:=h.cell;have M:w.cell? (K f (k*4+2))=some (.bool b[k].list):=by simp[World.cell?,S,U]
 have Ey:f<w.heap.size:=ao4 w _ M;have kr:=(h.ad b[k] (aoY _));have kl:=h.ae.2.1 b[k] (aoY _);have k4:=aa kr;clear kr;have lO:=aa kl;clear kl;have nC:=aa S;clear S;have nH:=aa U;clear U;have rv:=aa iU;clear iU;clear gv nG;rw[hl]at M;have ko:=aa ag;have oC:=aa M;clear h;go_enter func192,ntmps192;go_wp2_with (go_at_call 174;go_must (refine(B8 B d (.slice (some (H f)) b.length cap) b q r _ ?au ?ab).mono ?_;(case au=>exact(R.o.af ((aoQ w.heap.size w).alloc (aoP _) _)).cell);(case ab=>exact(R.o.af ((aoQ w.heap.size w).alloc (aoP _) _)).ae);rintro e w1 ⟨rfl,c⟩;have E:J w w1:=((aoQ w.heap.size w).alloc (aoP _) _).trans (c.mono (by simp));have sn:=af (a:=(V w 0)) (v:=A l) c (by simp[go_sem]);have Cd:=af (a:=(V w 1)) (v:=A m) c (by simp[go_sem]);have Ce:=af (a:=(V w 2)) (v:=A kind) c (by simp[go_sem]);have NI:=af (a:=(V w 3)) (v:=.bool L) c (by simp[go_sem]);have NJ:=af (a:=(V w 4)) (v:=A q) c (by simp[go_sem]);have NK:=af (a:=(V w 5)) (v:=A r) c (by simp[go_sem]);have GC:=af (a:=(V w 6)) (v:=.string g) c (by simp[go_sem]);have NL:=af (a:=(V w 7)) (v:=A s) c (by simp[go_sem]);have NM:=af (a:=(V w 8)) (v:=A u) c (by simp[go_sem]);have NN:=af (a:=(V w 9)) (v:=A F) c (by simp[go_sem]);have NP:=af (a:=(V w 10)) (v:=A I) c (by simp[go_sem]);have Cf:=af (a:=(V w 11)) (v:=A n) c (by simp[go_sem]);have Cg:=af (a:=(V w 12)) (v:=A x) c (by simp[go_sem]);have Ch:=af (a:=(V w 13)) (v:=A y) c (by simp[go_sem]);have Ep:=af (a:=(V w 14)) (v:=.slice jn j.length co) c (by simp[go_sem]);replace ag:=af E ko.o;replace M:=af E oC.o;clear c;have hz1:=E.size;have ax:=aa E;clear E))
 have dN:∀W,J w1 W->O 215 #[.pointer (some (K f (k*4))),.agg #[A l,A m,A kind,.bool L,A q,A r,.string g,A s,A u,A F,A I,A n,A x,A y,.slice jn j.length co]] W fun e z=>
   e=.returned (.tuple #[])/\(∃D i,fq B (t+1) z d (.slice (some (H f)) b.length cap) (b.set k ⟨b[k].id,b[k].list,D,i⟩)/\i.map bD.p=kN (b[k].ss.map bD.p) b[k].list g (s,u) j kind ⟨(l,m),n,(x,y)⟩)/\mc B w z:=by
  intro W ek;have C:J w W:=ax.o.trans (ek.mono hz1);have TA:W.heap[f]?=some (.cells cj 272 (0,0)):=by rw[C.block f Ey];exact nC.o
  refine(abM B t f (k*4) cj b[k].gY b[k].ss k4.o.1 k4.o.2 aF b[k].list l m kind q r s u F I n x y L g _ j W TA rv.o nH.o (lO.o.af C) (by have :=C.size;omega) (tE.o.af C)).mono ?_;rintro e z ⟨he,i,N,nd,vI,iS⟩;obtain⟨⟨D,ry⟩,ab⟩:=(R.o.af C).upd Y rfl TA N vI iS;exact⟨he,⟨D,i,ry,nd⟩,(mc.cQ C hBw).trans ab⟩
 have HVH:=aa dN;clear dN;cases Q
 all_goals go_region
 all_goals go_wp2_with (go_at_call 215;go_must (refine(HVH.o _ ?hw).mono ?_;(case hw=>exact below_drewN (aoQ _ _) _);rintro e w2 ⟨rfl,N⟩;have gi:=aa N;clear N))
 all_goals go_end0
 all_goals exact⟨rfl,gi.o⟩
theorem TB{b:List dA}(d:a<b.length)(e:Value)(c:List bD)(f:ba->ba)(g:f b[a].p=⟨b[a].id,b[a].list,c.map bD.p⟩):
  (b.set a ⟨b[a].id,b[a].list,e,c⟩).map dA.p=(b.map dA.p).modify a f:=by
 rw[List.map_set,NF _ _ _ (by simpa using d),apy,g];rfl
theorem abW {α:Type} (f:α->α) (l:List α) (k:Nat) (h:k<l.length) (a:f l[k]=l[k]):l.modify k f=l:=by
 rw[NF f l k h,a,List.set_getElem_self]
theorem abX{p:bu}{o:ba}(a:¬p.kind=2)(h:o.list=p.key.toList.isEmpty):e9 p o=⟨o.id,o.list,kN o.ss o.list p.key p.element p.old p.kind p.held⟩:=by
 unfold e9;rw[if_neg a,if_pos h]
theorem abY{p:bu}{o:ba}(a:¬p.kind=2)(h:¬o.list=p.key.toList.isEmpty):e9 p o=o:=by
 unfold e9;rw[if_neg a,if_neg h]
theorem abZ(B t d:Nat)(v:Value)(b:List dA)(y:t<100000)(s:Value)(p:bu)(w:World)(h:fq B t w d v b)(z:er w s p.old):
  O 192 #[Z d,Ty p s] w fun e o=>
   e=.returned (.tuple #[])/\∃u W,fq B (t+1) o d u W/\W.map dA.p=b0 (b.map dA.p) p/\mc B w o:=by
 obtain⟨⟨C,D⟩,kind,E,⟨c,g⟩,m,⟨F,I⟩,⟨L,M⟩,n,⟨N,P⟩,Q⟩:=p;unfold Ty;by_cases q:kind=1
 ·subst q
  obtain⟨jn,co,rfl,_⟩:=bp z;refine(abQ B t d v b y _ C D c g F I L M n N P E m w h ⟨_,_,_,rfl⟩).mono fun e o ⟨i,u,j,l⟩=>⟨i,u,_,j,?_,l⟩
  simp[b0,dA.p]
 ·have aE:=yz (lo (c,g)) b
  have kq:=Cc (lo (c,g)) b;by_cases X:cK (lo (c,g)) b<0
  ·refine(abR B t d v b y s Q C D kind c g F I L M n N P E m w h z q (by omega)).mono fun e o ⟨i,j,l⟩=>⟨i,v,b,j.mono (by omega),?_,l⟩
   unfold b0;simp only[J6,if_neg q,if_pos X]
  ·obtain⟨k,R⟩:=aqe (a:=cK (lo (c,g)) b) (by omega)
   have x:k<b.length:=by omega
   have ab0:k<(b.map dA.p).length:=by simpa using x
   have Y:∀f,(f b[k].p=b[k].p->(b.map dA.p).modify k f=b.map dA.p):=fun f aD=>abW _ _ _ ab0 (by simpa using aD)
   have tF:∀p:bu,p.kind=kind->p.object=(c,g)->b0 (b.map dA.p) p=(b.map dA.p).modify k (e9 p):=by
    intro p ev fp;unfold b0;rw[ev,fp,J6,if_neg q,if_neg X,R];rfl
   rw[tF _ rfl rfl];by_cases r:kind=2
   ·cases S:b[k].list
    ·refine(abS B t d v b y s Q C D kind c g F I L M n N P E m w h z q k x R r S).mono fun e o ⟨i,j,l⟩=>⟨i,v,b,j.mono (by omega),?_,l⟩
     rw[Y _ (by simp[e9,r,dA.p,S])]
    ·refine(abT B t d v b y s Q C D kind c g F I L M n N P E m w h z q k x R r S).mono fun e o ⟨i,⟨u,j⟩,l⟩=>⟨i,v,_,j,?_,l⟩
     exact TB x u _ _ (by simp[e9,r,dA.p,S,abJ])
   ·by_cases U:b[k].list=m.toList.isEmpty
    ·refine(abV B t d v b y s Q C D kind c g F I L M n N P E m w h z q k x R r b[k].list rfl U.symm).mono fun e o ⟨i,⟨u,l',j,ak⟩,l⟩=>⟨i,v,_,j,?_,l⟩
     refine TB x u _ _ ?_;rw[abX (by exact r) (by exact U),ak];rfl
    ·have vJ:m.toList.isEmpty= !b[k].list:=by
      revert U;cases b[k].list<;>cases m.toList.isEmpty<;>simp
     refine(abU B t d v b y s Q C D kind c g F I L M n N P E m w h z q k x R r b[k].list rfl vJ).mono fun e o ⟨i,j,l⟩=>⟨i,v,b,j.mono (by omega),?_,l⟩
     rw[Y _ (abY (by exact r) (by exact U))]
def rz (a b:PId):Bool:=decide (a.1<b.1\/(a.1=b.1/\a.2<b.2))
theorem GD(a:PId):rz a a=false:=by simp[rz]
theorem ab1{a b c:PId}(d:rz a b=true)(e:rz b c=true):rz a c=true:=by
 simp[rz]at *;omega
def xl (S:List bu):Prop:=S.Pairwise fun a b=>rz a.id b.id=true
def qH (a:List PId) (b:Nat->Bool) (k:Nat) (r:Int):Prop:=
 (r= -1/\∀j,j<k->b j=true)\/
 ∃i,∃c:i<a.length,i<k/\r=(i:Int)/\b i=false/\∀j (d:j<a.length),j<k->b j=false->rz a[j] a[i]=false
theorem qH.taken(h:qH e b a j)(l:b a=true):qH e b (a+1) j:=by
 rcases h with⟨f,g⟩|⟨i,m,q,f,g,n⟩
 ·refine .inl ⟨f,fun c o=> ?_⟩
  by_cases d:c=a
  ·subst d;exact l
  ·exact g c (by omega)
 ·refine .inr ⟨i,m,by omega,f,g,fun c p o k=> ?_⟩
  by_cases d:c=a
  ·subst d;rw[l]at k;cases k
  ·exact n c p (by omega) k
theorem qH.first{a:List PId}{k:Nat}(d:k<a.length)(h:qH a b k (-1))(f:b k=false):qH a b (k+1) k:=by
 rcases h with⟨_,g⟩|⟨i,l,m,n,_⟩
 ·refine .inr ⟨k,d,by omega,rfl,f,fun j o p c=> ?_⟩
  by_cases e:j=k
  ·subst e;exact GD _
  ·rw[g j (by omega)]at c;cases c
 ·omega
theorem qH.better(f:a<e.length)(q:d<e.length)(h:qH e b a d)(g:b a=false)(k:rz e[a] e[d]=true):qH e b (a+1) a:=by
 rcases h with⟨l,_⟩|⟨i,r,s,l,t,m⟩
 ·omega
 ·have :d=i:=by omega
  subst this;refine .inr ⟨a,f,by omega,rfl,g,fun j n u o=> ?_⟩;by_cases c:j=a
  ·subst c;exact GD _
  ·have :=m j n (by omega) o
   cases p:rz e[j] e[a]
   ·rfl
   ·rw[ab1 p k]at this;cases this
theorem qH.Ns(p:d<e.length)(f:a<e.length)(h:qH e b d a)(g:rz e[d] e[a]=false):qH e b (d+1) a:=by
 rcases h with⟨k,_⟩|⟨i,q,r,k,l,m⟩
 ·omega
 ·have :a=i:=by omega
  subst this;refine .inr ⟨a,f,by omega,rfl,l,fun j n s o=> ?_⟩;by_cases c:j=d
  ·subst c;exact g
  ·exact m j n (by omega) o
theorem qH.shape(h:qH e b a j):j= -1\/∃m:Nat,∃_:m<e.length,j=(m:Int):=by
 rcases h with⟨c,_⟩|⟨i,d,_,c,_⟩
 ·exact .inl c
 ·exact .inr ⟨i,d,c⟩
theorem ab2(h:xl f):(f.map (·.id)).Nodup:=by
 unfold xl at h;rw[List.Nodup,apB];exact h.imp fun{a b} c e=>by rw[e,GD]at c;cases c
theorem NQ(h:xl f)(b:a<f.length)(c:d<f.length)(e:a<d):rz f[a].id f[d].id=true:=
 apM.1 h a d b c e
theorem TC(h:xl f)(c:a<f.length):f[a].id∈(f.take d).map (·.id)↔a<d:=by
 rw[aoX];constructor
 ·rintro⟨b,j,e⟩
  obtain⟨i,k,rfl⟩:=apl.1 j;rw[ao7]at k;rw[aqo]at e;have g:i<f.length:=by omega
  by_cases l:i<a
  ·have :=NQ h g c l
   rw[e,GD]at this;cases this
  ·by_cases m:a<i
   ·have :=NQ h c g m
    rw[e,GD]at this;cases this
   ·omega
 ·intro n
  exact⟨f[a],by rw[apl];exact⟨a,by rw[ao7];omega,by rw[aqo]⟩,rfl⟩
theorem ab3(h:k.Perm f)(l:xl k)(o:a<f.length)(p:∀i (g:i<f.length),b i=decide (f[i].id∈(k.take a).map (·.id)))(u:qH (f.map (·.id)) b f.length j):∃i,∃g:i<f.length,j=(i:Int)/\f[i]=k[a]'(by rw[h.length_eq];exact o):=by
 have r:a<k.length:=by rw[h.length_eq];exact o
 obtain⟨c,d,s⟩:∃c,∃d:c<f.length,f[c]=k[a]:=by
  have :k[a]∈f:=h.mem_iff.1 (aoY _);obtain⟨c,d,e⟩:=apl.1 this;exact⟨c,d,e⟩
 have m:b c=false:=by
  rw[p c d,s,decide_eq_false_iff_not,TC l r];omega
 rcases u with⟨_,n⟩|⟨i,g,_,v,n,w⟩
 ·rw[n c d]at m;cases m
 ·rw[aoU]at g
  refine⟨i,g,v,?_⟩;have x:f[i]∈k:=h.mem_iff.2 (aoY _);obtain⟨q,t,eq⟩:=apl.1 x;rw[p i g,<-eq,decide_eq_false_iff_not,TC l t]at n;by_cases y:q=a
  ·subst y;exact eq.symm
  ·have z:=NQ l r t (by omega)
   have :=w c (by simpa using d) d m;rw[apy,apy,s,<-eq,z]at this;cases this
theorem ab4(g:k.Perm f)(n:xl k)(l:d<f.length)(o:∀a (h:a<f.length),b a=decide (f[a].id∈(k.take d).map (·.id)))(h:a<f.length)(e:f[a]=k[d]'(by rw[g.length_eq];exact l)):
  ∀j (c:j<f.length),(if j=a then true else b j)=decide (f[j].id∈(k.take (d+1)).map (·.id)):=by
 intro j c;have p:d<k.length:=by rw[g.length_eq];exact l
 have q:(f.map (·.id)).Nodup:=(g.map _).nodup_iff.1 (ab2 n);rw[aph p,ao8,List.map_singleton];by_cases i:j=a
 ·subst i;rw[if_pos rfl];symm;rw[decide_eq_true_eq,e];simp
 ·rw[if_neg i,o j c]
  have r:f[j].id≠k[d].id:=by
   rw[<-e];intro m;have :=(List.nodup_iff_pairwise_ne.1 q);rw[apM]at this;rcases aro i with s|t
   ·exact this j a (by simpa using c) (by simpa using h) s (by simpa using m)
   ·exact this a j (by simpa using h) (by simpa using c) t (by simpa using m.symm)
  simp[r]
structure bw where
 p:bu
 dq:Value
def lP (o:bw):List Value:=[A o.p.id.1,A o.p.id.2,A o.p.kind,.bool o.p.list,A o.p.object.1,A o.p.object.2,.string o.p.key,A o.p.element.1,A o.p.element.2,A o.p.behind.1,A o.p.behind.2,A o.p.num,A o.p.obj.1,A o.p.obj.2,o.dq]
def kt (w:World) (v:Value) (l:List bw):Prop:=w.ownsRow 0 233 15 v l.length (l.flatMap lP)/\∀o∈l,er w o.dq o.p.old
theorem kt.af{w v l}{w':World}(h:kt w v l)(a:J w w'):kt w' v l:=⟨c5 h.1 a,fun o b=>(h.2 o b).af a⟩
theorem kt.cell{w l}{g:Nat}(h:kt w (.slice (some (H g)) a d) l)(b:a=l.length)(i:Nat)(c:i<l.length)(j:Nat)(e:j<15):w.cell? (K g (i*15+j))=(lP l[i])[j]?:=by
 subst b;exact iw (f:=lP) (fun _=>rfl) h.1 rfl i c j e
def oE (B:Nat) (w:World) (v:Value) (n:Nat) (a:Nat->Bool):Prop:=w.ownsRow B 4 1 v n ((List.range n).map fun i=>Value.bool (a i))
theorem oE.cell{w}{g c:Nat}(h:oE i w (.slice (some (H g)) d c) d b)(e:a<d):w.cell? (K g a)=some (.bool (b a)):=by
 rw[aqE h a (by omega)];simp[e]
theorem oE.Ck{g:Nat}(e:oE d h (.slice (some (H g)) a i) a b)(c:Nat):h.frozen? (K g c)=false:=aq4 e c
theorem oE.store{g:Nat}(f:oE d h (.slice (some (H g)) a i) a b)(c:Nat):
  oE d (h.setCell (K g c) (.bool true)) (.slice (some (H g)) a i) a (fun j=>if j=c then true else b j):=by
 have :=(arl f c (.bool true)).1;unfold oE;have e:((List.range a).map fun c=>Value.bool (b c)).set c (.bool true)=(List.range a).map fun j=>Value.bool (if j=c then true else b j):=by
  apply ap6;intro j;rw[arf];by_cases l:c=j
  ·subst l
   by_cases k:c<a
   ·simp[k]
   ·simp[k]
  ·by_cases k:j<a
   ·simp[l,k,ao5 l]
   ·simp[l,k]
 rw[<-e];exact this
def c2:List ba:=[⟨(0,0),false,[]⟩]
theorem ab5{c:World}(d:((h.alloc (.cells #[A 0,A 0,.bool false,.slice none 0 0] 272)).alloc (.cells #[.slice (some (V h 0)) 1 1] 277)).grownBy c none):
  fq h.heap.size 0 c (h.heap.size+1) (.slice (some (V h 0)) 1 1) [⟨(0,0),false,.slice none 0 0,[]⟩]:=by
 refine⟨?_,by omega,⟨⟨by simp[jG],.inr ⟨h.heap.size,1,#[A 0,A 0,.bool false,.slice none 0 0],rfl,aoP _,?_,by simp,by simp[maxLen],rfl,by simp[jG]⟩⟩,?_,?_⟩,by simp,?_⟩
 ·rw[d.block (h.heap.size+1) (by simp) (by simp)]
  have :h.heap.size+1=(h.alloc (.cells #[A 0,A 0,.bool false,.slice none 0 0] 272)).heap.size:=by simp
  rw[this];exact heap_alloc_new _ _
 ·rw[d.block h.heap.size (by simp;omega) (by simp),heap_alloc_old _ _ (by simp)]
  exact heap_alloc_new _ _
 ·intro o a;simp at a;subst a;exact⟨ao9 _ _ _ _,fun s b=>by simp at b⟩
 ·intro i j e f g;simp at e f;omega
 ·intro o a;simp at a;subst a;exact⟨by simp,fun s b=>by simp at b⟩
theorem ab6{v:Value}(b:h.ownsRow d 4 1 v a (madeCells (Value.bool false).cells (a*1)).toList):oE d h v a (fun _=>false):=by
 unfold oE;have e:(madeCells (Value.bool false).cells (a*1)).toList=(List.range a).map fun _=>Value.bool false:=by
  show(madeCells #[Value.bool false] (a*1)).toList=_;rw[toList_madeCells_one,aqf];apply ap6;intro j;by_cases c:j<a<;>simp[c]
 rw[<-e];exact b
theorem oE.af{n w v}{w':World}(h:oE a w v n b)(c:J w w'):oE a w' v n b:=c5 h c
theorem fq.store{v p}(f:fq d i h a v p){g o:Nat}{c:Array Value}{e:TypeId}(s:h.heap[g]?=some (.cells c e (0,0)))(t:e≠277)(w:e≠272)(x:e≠269)(y:e≠243)(u:Value):
  fq d i (h.setCell (K g o) u) a v p:=by
 have z:∀b,b≠g->(h.setCell (K g o) u).heap[b]?=h.heap[b]?:=fun b j=>apj _ _ _ _ j
 have l:∀(b:Nat) (k:Array Value) (m:TypeId),h.heap[b]?=some (.cells k m (0,0))->m≠e->(h.setCell (K g o) u).heap[b]?=h.heap[b]?:=by
  intro b k m j B;exact z b (fun C=>by subst C;exact B (bz j s))
 refine⟨by rw[l a _ _ f.ai (ao5 t)];exact f.ai,f.hB,⟨⟨f.ae.1.1,?_⟩,fun q r=>J2 (f.ae.2.1 q r) (fun b j=> ?_) (fun b k n=>l b k _ n (ao5 y)),f.ae.2.2⟩,f.hn,f.ad⟩
 ·rcases f.ae.1.2 with D|⟨b,E,F,I,L,j,rest⟩
  ·exact .inl D
  ·exact .inr ⟨b,E,F,I,L,by rw[l b _ _ j (ao5 w)];exact j,rest⟩
 ·obtain⟨k,n⟩:=bt (f.ae.2.1 q r).1 j
  exact l b k _ n (ao5 x)
theorem ab7(x y:PId)(w:World):O 158 #[.agg #[A x.1,A x.2],.agg #[A y.1,A y.2]] w fun e a=>e=.returned (.bool (rz x y))/\J w a:=
 aa5 x.1 x.2 y.1 y.2 w
def ab8 (w:World) (l:List bw) (S:List bu) (d gt m:Nat) (wr:World):Prop:=
 ∃c a b,fq w.heap.size m wr d c a/\a.map dA.p=(S.take m).foldl b0 c2/\oE w.heap.size wr (.slice (some (H gt)) l.length l.length) l.length b/\
  (∀i (e:i<(l.map bw.p).length),b i=decide ((l.map bw.p)[i].id∈(S.take m).map bu.id))/\J w wr
def ab9 (w:World) (l:List bw) (a:Nat->Bool) (k:Nat) (r:Int) (wr b:World):Prop:=qH ((l.map bw.p).map bu.id) a k r/\J wr b
theorem aca(v:Value)(l:List bw)(S:List bu)(bY:S.Perm (l.map bw.p))(TD:xl S)(hl:l.length<10000)(w:World)(h:kt w v l):
  O 175 #[v] w fun e Q=>
   ∃d F B,e=.returned (Z d)/\fq w.heap.size l.length Q d F B/\B.map dA.p=S.foldl b0 c2/\J w Q:=by
 obtain⟨a,cap,rfl,jk,dh,fu⟩:=bp h.1;unfold maxLen at dh;have du:=aa fu;clear fu;have t:=aa h;clear h;have I:=aa bY;clear bY;have J9:=aa TD;clear TD;obtain⟨i0,R,hz0,hz1,hz2⟩:=info_parts (P:=prog) (e:=4) (z:=.bool false) (size:=1) (bytes:=1) (by kernel_rfl);go_enter func175,ntmps175;go_wp2_with (at_make;go_must (refine wpList_make_full _ rfl (.tmp 14) (.tmp 14) 299 rfl (w.heap.size+2) 4 i0 (.bool false) 1 underlying299 R hz0 hz1 _ _ _ _ l.length rfl rfl ?h1 ?h2 ?ak ?aL ?bW ?_;(case h1=>rfl);(case h2=>rfl);(case ak=>rw[hz2];omega);(case aL=>unfold maxLen;omega);(case bW=>simp);intro w1 U W))
 have aq:J w w1:=(((aoQ _ w).alloc (aoP _) _).alloc (by simp) _).grown W (by simp;omega) (fun k hk=>by cases hk);have Co:=aa (ab5 W);rw[show((w.alloc (.cells #[A 0,A 0,.bool false,.slice none 0 0] 272)).alloc (.cells #[.slice (some (V w 0)) 1 1] 277)).heap.size=w.heap.size+1+1 by simp]at U;have acb:Hq (oE w.heap.size w1 (.slice (some (H (w.heap.size+1+1))) l.length l.length) l.length (fun _=>false)):=gC (base':=w.heap.size) (ab6 U) (by omega);clear W U R hz0 hz1 hz2 i0;have ax:=aa aq;clear aq;generalize w.heap.size+1=d at *;generalize d+1=gt at *;go_loopw [5] (fun X wr=>∃m:Nat,m<=l.length/\X=A m/\ab8 w l S d gt m wr) (fun X _=>l.length-(intOf X).toNat)
 case atStart=>exact⟨0,aoR _,rfl,_,_,fun _=>false,Co.o,rfl,acb.o,fun i Y=>by simp,ax.o⟩
 case round=>
  obtain⟨m,hm,rfl,hinv⟩:=hrel;obtain⟨ws,An⟩:∃ws,ws=wr:=⟨_,rfl⟩;subst An;obtain⟨F,B,dK,ry,xm,tG,Ka,aZ⟩:=hinv;have p0:=aa ry;clear ry;have Kb:=aa xm;clear xm;have sr:=aa Ka;clear Ka;have HFL:=aa tG;clear tG;have n:=aa aZ;clear aZ;by_cases L:m<l.length
  ·obtain⟨g,rfl⟩:=du.o m L
   go_wp2;go_loopw [6,7] (fun b i hd=>∃k:Nat,∃r:Int,k<=l.length/\i=A k/\b=A r/\ab9 w l dK k r ws hd) (fun _ i _=>l.length-(intOf i).toNat)
   case atStart=>exact⟨0,-1,aoR _,rfl,rfl,.inl ⟨rfl,fun j C=>absurd C (ap5 _)⟩,aoQ _ _⟩
   case round=>
    obtain⟨k,r,hk,rfl,rfl,Ao⟩:=hrel;obtain⟨TE,u⟩:=Ao;have x:=aa TE;clear TE;have q:=HFL.o.af u;by_cases y:k<l.length
    ·have bc:=oE.cell q y
     have M:=(kt.cell (t.o.af (n.o.trans (u.mono n.o.size))) rfl k y 0 (by omega));have bg:=(kt.cell (t.o.af (n.o.trans (u.mono n.o.size))) rfl k y 1 (by omega));simp only[lP,aqb,aqW,apL]at M bg;have cP:g<wr.heap.size:=ao4 wr _ M;have s:=aa u;clear u;have HFQ:=aa q;clear q;cases D:dK k
     ·rw[D]at bc
      rcases x.o.shape with rfl|⟨j,C,rfl⟩
      ·go_wp2
       go_roundw
       case rel=>exact⟨k+1,k,by omega,by go_num,rfl,x.o.first (by simpa using y) D,s.o⟩
       case measure=>simp[intOf];omega
      ·have ix:j<l.length:=by simpa using C
       have jS:=(kt.cell (t.o.af (n.o.trans (s.o.mono n.o.size))) rfl j ix 0 (by omega));have q1:=(kt.cell (t.o.af (n.o.trans (s.o.mono n.o.size))) rfl j ix 1 (by omega));simp only[lP,aqb,aqW,apL]at jS q1;have Ap:¬(j:Int)<0:=by omega
       have b8:=aa (ab7 l[k].p.id l[j].p.id);go_wp2;go_region_with (go_at_call 158;refine(b8.o _).mono ?_;rintro e Q ⟨rfl,fN⟩;have k5:=aa fN;clear fN)
       all_goals cases ab:rz l[k].p.id l[j].p.id
       all_goals go_wp2
       all_goals go_roundw
       all_goals first |(simp[intOf];omega)|exact⟨k+1,j,by omega,by go_num,rfl,x.o.Ns (by simpa using y) C (by simpa using ab),s.o.trans (((aoQ _ wr).drew.trans k5.o).mono s.o.size)⟩|exact⟨k+1,k,by omega,by go_num,rfl,x.o.better (by simpa using y) C D (by simpa using ab),s.o.trans (((aoQ _ wr).drew.trans k5.o).mono s.o.size)⟩
     ·rw[D]at bc
      go_wp2;go_roundw
      case rel=>exact⟨k+1,r,by omega,by go_num,rfl,x.o.taken D,s.o⟩
      case measure=>simp[intOf];omega
    ·have EC:k=l.length:=by omega
     subst EC;obtain⟨i,Y,rfl,E⟩:=ab3 I.o J9.o (by simpa using L) sr.o (by simpa using x.o);have c:i<l.length:=by simpa using Y
     have NS:J w wr:=n.o.trans (u.mono n.o.size);have f:=t.o.af NS;have bc:=oE.cell q c;have an7:=oE.Ck q i;have cP:g<w.heap.size:=by
      have :=kt.cell t.o rfl i c 0 (by omega);simp only[lP,aqb]at this;exact ao4 w _ this
     have lu:w.heap.size<=gt:=(aoT q gt rfl).1;have br:g≠gt:=by omega
     have M:=kt.cell f rfl i c 0 (by omega);have bg:=kt.cell f rfl i c 1 (by omega);have bH:=kt.cell f rfl i c 2 (by omega);have k6:=kt.cell f rfl i c 3 (by omega);have yF:=kt.cell f rfl i c 4 (by omega);have an8:=kt.cell f rfl i c 5 (by omega);have an9:=kt.cell f rfl i c 6 (by omega);have aoa:=kt.cell f rfl i c 7 (by omega);have aob:=kt.cell f rfl i c 8 (by omega);have aoc:=kt.cell f rfl i c 9 (by omega);have o10:=kt.cell f rfl i c 10 (by omega);have o11:=kt.cell f rfl i c 11 (by omega);have o12:=kt.cell f rfl i c 12 (by omega);have o13:=kt.cell f rfl i c 13 (by omega);have o14:=kt.cell f rfl i c 14 (by omega);simp only[lP,aqb,aqW,apL]at M bg bH k6 yF an8 an9 aoa aob aoc o10 o11 o12 o13 o14;have R:(0:Int)<=(i:Int):=by omega
     have TF:=aa E;clear E;have HDW:=aa (((p0.o.af u).store (bt q (g:=gt) rfl).choose_spec (by decide) (by decide) (by decide) (by decide) (.bool true) (o:=i)));have HFW:=aa (oE.store q i);have Aq:=aa (NS.setCell (p:=(K gt i)) lu (.bool true));have tI:=aa ((t.o.2 l[i] (aoY _)).af Aq.o);clear q f NS;go_wp2_with (go_at_call 192;go_must (refine(abZ w.heap.size m d F B (by omega) l[i].dq l[i].p _ ?au ?ab).mono ?_;(case au=>exact HDW.o);(case ab=>exact tI.o);rintro e w2 ⟨rfl,vd2,os2,Ex,jJ,rq⟩;have N:=aa (And.intro Ex (And.intro jJ rq));clear Ex jJ rq))
     go_roundw
     case rel=>
      have EA:m<S.length:=by rw[I.o.length_eq];simpa using L
      refine⟨m+1,by omega,by go_num,vd2,os2,_,N.o.1,?_,N.o.2.2.row HFW.o (by decide) (by decide) (by decide),ab4 I.o J9.o (by simpa using L) sr.o Y TF.o,Aq.o.trans N.o.2.2.below⟩;have E:=TF.o;rw[apy]at E;rw[N.o.2.1,Kb.o,E,aph EA,apX];rfl
     case measure=>simp[intOf];omega
  ·go_wp2
   go_ret
   have e:m=l.length:=by omega
   subst e;refine⟨d,F,B,rfl,p0.o,?_,n.o⟩;have :=Kb.o;rwa [apc (by rw[I.o.length_eq];simp)]at this
end Go.Proofs.YtnkpogjiiohapaaGreatDoor
