/- Our own text. -/
import Derived.Lib.ItoaNum
import Derived.Lib.ItoaLen
import Derived.Test.YtnkpogjiiohapaaGreatDoorA04
set_option linter.unusedSimpArgs false
set_option linter.unusedVariables false
set_option maxRecDepth 1000000
set_option maxHeartbeats 1600000
namespace Go.Proofs.YtnkpogjiiohapaaGreatDoor
open Go.RowKit Tryz
variable {a e m:Nat}{b k l:Value}{d r:World}{f:Nat->List bw}{h:Nat->Nat->Nat}{i:Nat->Nat->Value}{j:Nat->Value}{n:List bu}{q:List ba}
structure e2 (w:World) (r N:Nat) (aN aG aQ:Value) (aV:Nat->Value) (cops:Nat->List bw) (cp:Nat->Nat->Value) (has:Nat->Nat->Nat):Prop where
 aI:w.heap[r]?=some (.cells #[A N,aN,aG,aQ] 222 (0,0))
 hN:N<=4
 hq:w.ownsRow 0 255 1 aN N ((List.range N).map aV)
 dZ:∀i,i<N->kt w (aV i) (cops i)
 fx:w.ownsRow 0 225 4 aG N ((List.range N).flatMap fun c=>[cp c 0,cp c 1,cp c 2,cp c 3])
 hH:∀c,c<N->w.ownsRow 0 3 1 (cp c 0) N ((List.range N).map fun i=>A (has c i))
 hle:∀c i,c<N->i<N->has c i<=(cops i).length
 hsz:∀i,i<N->(cops i).length<=60
theorem e2.af{w r N b d e f g j has}{w':World}(h:e2 w r N b d e f g j has)(a:J w w'):e2 w' r N b d e f g j has:=
 ⟨by rw[a.block r (ao1.1 h.aI).1];exact h.aI,h.hN,c5 h.hq a,fun i k=>(h.dZ i k).af a,c5 h.fx a,fun c l=>c5 (h.hH c l) a,h.hle,h.hsz⟩
theorem e2.bc{w}(c:e2 w a e b k l j f i h):w.cell? (H a)=some (A e):=by simp[World.cell?,c.aI]
theorem e2.a6{w}(c:e2 w a e b k l j f i h):w.cell? (K a 1)=some b:=by simp[World.cell?,c.aI]
theorem e2.bd{w}(c:e2 w a e k b l j f i h):w.cell? (K a 2)=some b:=by simp[World.cell?,c.aI]
theorem e2.row{w u v g}(d:e2 w m e b l u j v g h)(r:0<e):∃n o p q,b=.slice (some (H n)) e o/\l=.slice (some (H p)) e q/\e<=o/\e<=q/\(∀i,i<e->w.cell? (K n i)=some (j i))/\(∀c,c<e->w.cell? (K p (c*4))=some (g c 0)):=by
 obtain⟨a,o,s,x,_,y⟩:=bp d.hq;obtain⟨E,q,t,z,_,B⟩:=bp d.fx;obtain⟨n,rfl⟩:=y 0 r;obtain⟨p,rfl⟩:=B 0 r;refine⟨n,o,p,q,s,t,x,z,fun i C=> ?_,fun c D=> ?_⟩
 ·have :=d.hq;rw[s]at this
  rw[this.cellAt i (by omega)];simp[C]
 ·have :=d.fx;rw[t]at this
  have :=iw (f:=fun c=>[g c 0,g c 1,g c 2,g c 3]) (k:=4) (fun _=>rfl) this (by simp) c (by simpa using D) 0 (by omega);rw[apL]at this;rw[this];simp
theorem e2.Cp{w r}(d:e2 w r e b k l j f i h)(o:m<e):∃g n,i m 0=.slice (some (H g)) e n/\e<=n/\∀c,c<e->w.cell? (K g c)=some (A (h m c)):=by
 obtain⟨a,n,p,q,_,s⟩:=bp (d.hH m o);obtain⟨g,rfl⟩:=s 0 (by omega);refine⟨g,n,p,q,fun c t=> ?_⟩;have :=d.hH m o;rw[p]at this;rw[this.cellAt c (by omega)];simp[t]
theorem xo(g:e2 d a e b k l j f i h)(c:Int):
  O 151 #[Z a,A c] d fun m n=>m=.returned (.bool (decide (0<=c/\c<e)))/\n=d:=by
 have p:=g.bc;clear g;by_cases o:0<=c
 ·go_enter func151,ntmps151
  go_wp2;go_ret
  exact⟨l9 (by simp[o]),rfl⟩
 ·go_enter func151,ntmps151
  go_wp2;go_ret
  exact⟨l9 (by simp[show ¬0<=c by omega]),rfl⟩
theorem Ar(g:e2 d a e b k l j f i h)(c:Nat)(o:c<e)(n:Nat)(s:n<=10):
  O 144 #[Z a,A c,A n] d fun m q=>m=.returned (.bool (decide ((f c).length+n<=60)))/\q=d:=by
 have t:=g.a6;obtain⟨u,v,w,x,rfl,rfl,y,_,cells,_⟩:=g.row (by omega);obtain⟨z,B,p,_,_,_⟩:=bp (g.dZ c o).1;have r:=cells c o;rw[p]at r;have C:=g.hsz c o;have D:=g.hN;clear g cells p;go_enter func144,ntmps144;go_wp2;go_ret
 exact⟨l9 (by rw[decide_eq_decide];omega),rfl⟩
theorem acd {α:Type} (f:α->List Value) (size bytes:Nat) (t e:TypeId) (z:Value) (F:(prog.info? e).map (fun i=>(i.zero,i.size,i.bytes))=some (some z,size,bytes))
  (p:prog.underlying t=some (.slice e)) (I:z.cells.size=size) (L:0<size) (M:∀x,(f x).length=size)
  {q:Array Oper} {o:Oper} {a:Act} {b:Act->World->Prop} {Q:Exit->Act->World->Prop} {E:Prop}
  (N:o.guard=none) (s x:Operand) (r:o.op=.call {callee:=.builtin .append,args:= #[s,x],argTypes:= #[t,t]}) (B:Nat) (v:Value) (l g:List α) (w:a.eval s=v)
  (m:d.ownsRow B e size v l.length (l.flatMap f)) (y:Value) (C:a.eval x=y) (R:uw d f y g) (S:∀u∈g.flatMap f,u.oneCell'=true)
  (U:(l.length+g.length)*bytes<=140737488355328) (W:l.length+g.length<=maxLen) (X:B<=d.heap.size)
  (h:∀k j,j.ownsRow B e size k (l.length+g.length) ((l++g).flatMap f)->d.grownBy j v.ownBlock->b (a.put o.dst k) j):
  if Region.wanted o (yielded q a.tmps)=true then Oper.wp prog o a d b Q else E:=by
 have Y:Region.wanted o (yielded q a.tmps)=true:=by simp[Region.wanted,N]
 rw[if_pos Y];obtain⟨i,D,bJ,hsz,eW⟩:=info_parts F;rcases R with⟨rfl,rfl⟩|⟨Gw,c,rfl,hc⟩
 ·have n:=run_append_owned_none (P:=prog) d B t o.type e i size p D v l.length _ m
  unfold Oper.wp execOp;simp only[r,resolve,invoke,builtin,apk,apZ,apq,aqL,apb,apU,w,C,n];exact h v d (by simpa using m) (World.grownBy.refl d _)
 ·obtain⟨k,j,n,h2,ak,_⟩:=run_append_own (P:=prog) d B t o.type e i z size bytes p D bJ hsz eW I L v l.length (l.flatMap f) m Gw g.length c (g.flatMap f) (qF f size M g) hc S W U X
  unfold Oper.wp execOp;simp only[r,resolve,invoke,builtin,apk,apZ,apq,aqL,apb,apU,w,C,n];exact h k j (by simpa using h2) ak
def xp (B:Nat) (w:World) (v:Value) (l:List bw):Prop:=w.ownsRow B 233 15 v l.length (l.flatMap lP)
theorem xp.below{l}{c:World}(h:xp a d b l)(e:Below a r d)(f:a<=d.heap.size)(g:d.grownBy c b.ownBlock):Below a r c:=
 e.grown g f fun k i=>(aoT h k i).1
theorem xp.drew{B w v l}(h:xp B w v l):xp B w.drew v l:=arp h
theorem ace{l:List bw}(h:∀o∈l,er d o.dq o.p.old):∀u∈l.flatMap lP,u.oneCell'=true:=by
 intro u b;obtain⟨o,e,b⟩:=api.1 b;obtain⟨a,c,f,_⟩:=bp (h o e);simp[lP]at b;rcases b with rfl|rfl|rfl|rfl|rfl|rfl|rfl|rfl|rfl|rfl|rfl|rfl|rfl|rfl|rfl<;>first |rfl|(rw[f];rfl)
theorem acf{i:Array Oper}{o:Oper}{a:Act}{b:Act->World->Prop}{Q:Exit->Act->World->Prop}{E:Prop}(j:o.guard=none)(s x:Operand)(k:o.op=.call {callee:=.builtin .append,args:= #[s,x],argTypes:= #[255,255]})(B:Nat)(v:Value)(l c:List bw)(m:a.eval s=v)(n:xp B d v l)(g:Value)(p:a.eval x=g)(q:uw d lP g c)(r:∀u∈c.flatMap lP,u.oneCell'=true)(z:l.length+c.length<100000)(t:B<=d.heap.size)(h:∀f e,xp B e f (l++c)->d.grownBy e v.ownBlock->b (a.put o.dst f) e):
  if Region.wanted o (yielded i a.tmps)=true then Oper.wp prog o a d b Q else E:=
 acd lP 15 144 255 233 (.agg #[A 0,A 0,A 0,.bool false,A 0,A 0,.string ⟨#[]⟩,A 0,A 0,A 0,A 0,A 0,A 0,A 0,.slice none 0 0]) (by kernel_rfl) underlying255 rfl (by omega) (fun _=>rfl)
  j s x k B v l c m n g p q r (by omega) (by unfold maxLen;omega) t (fun f e w y=>h f e (by unfold xp;simpa using w) y)
def iV (cops:Nat->List bw) (has:Nat->Nat) (k:Nat):List bw:=(List.range k).flatMap fun i=>(cops i).take (has i)
theorem Kd(a:Nat->List bw)(b:Nat->Nat)(k:Nat):iV a b (k+1)=iV a b k++(a k).take (b k):=by
 unfold iV;rw[apz,apt];simp
theorem Ke(a:Nat->List bw)(b:Nat->Nat):∀k,(∀i,i<k->(a i).length<=60)->(iV a b k).length<=60*k
 |0,_=>by simp[iV]
 |k+1,h=>by
  rw[Kd,aoW,ao7];have :=Ke a b k (fun i c=>h i (by omega));have :=h k (by omega);omega
theorem TG{p}(h:e2 d e a b k l j f i p)(c:Nat)(y:c<a):
  O 173 #[Z e,A c] d fun n E=>
   ∃v,n=.returned v/\kt E v (iV f (p c) a)/\J d E:=by
 obtain⟨gO,p1,U,eX,rfl,rfl,ED,EE,F,I⟩:=h.row (by omega);obtain⟨W,X,L,EF,M⟩:=h.Cp y;have Y:=aa h.bc;have Er:=aa h.a6;have GF:=aa h.bd;have HCC:=aa (show d.cell? (K U (c*4))=some (.slice (some (H W)) a X) by rw[I c y,L]);have hN:=h.hN;have s:=aa h;clear h;have HCO:=aa F;clear F;have p2:=aa M;clear M;clear I L;go_enter func173,ntmps173;go_wp2;go_loopw [5,6] (fun u m wr=>∃g:Nat,g<=a/\m=A g/\xp d.heap.size wr u (iV f (p c) g)/\J d wr) (fun _ m _=>a-(intOf m).toNat)
 case atStart=>exact⟨0,aoR _,rfl,ao9 _ _ _ _,aoQ _ _⟩
 case round=>
  obtain⟨g,hk,rfl,z,q⟩:=hrel;have bc:=af q Y.o;have a6:=af q Er.o;have bd:=af q GF.o;have GG:=af q HCC.o;by_cases t:g<a
  ·have w:=s.o.dZ g t
   obtain⟨N,x,aH,k2,rn,sv⟩:=bp w.1;unfold maxLen at rn;have B:=HCO.o g t;rw[aH]at B w;replace B:=af q B;have oc:=af q (p2.o g t);have hle:=s.o.hle c g y t;have hsz:=s.o.hsz g t;have nE:=Ke f (p c) g (fun m P=>s.o.hsz m (by omega));have C:=aa (w.af q);have Q:=aa z;clear z w;have D:=aa q;clear q;clear sv;have hcI:((p c g:Nat):Int)<=(x:Int):=by omega
   have p3:(0:Int)<=((p c g:Nat):Int):=by omega
   have GI:=aa (show p c g=0->N=none->x=0 from fun _ n=>by have :=C.o.1;rw[n]at this;exact Nu this);go_wp2;go_region_law (refine acf rfl (.tmp 15) (.tmp 34) rfl d.heap.size _ (iV f (p c) g) ((f g).take (p c g)) (by simp[Act.eval,Act.put];rfl) ?h1 (.slice N (p c g) x) (by simp[Act.eval,Act.put]) ?h2 ?ak ?aL ?bW ?_;(case h1=>exact Q.o);(case h2=>exact Gx C.o.1 (fun _=>rfl) rfl (p c g) hle x GI.o);(case ak=>exact ace (fun o r=>C.o.2 o (apx r)));(case aL=>rw[ao7];omega);(case bW=>exact D.o.size);intro v' w2 R S;have rr:=aa R;clear R;have dD:=aa S;clear S)
   all_goals(try go_wp2)
   all_goals go_roundw
   all_goals first |(simp[intOf];omega)|exact⟨g+1,by omega,by go_num,by rw[Kd];exact rr.o,xp.below Q.o.drew D.o.drew D.o.size dD.o⟩
  ·go_wp2
   go_ret
   have n:g=a:=by omega
   subst n;refine⟨_,rfl,⟨gC z (aoR _),fun o r=> ?_⟩,q⟩;unfold iV at r;obtain⟨m,P,r⟩:=api.1 r;exact((s.o.dZ m (by simpa using P)).2 o (apx r)).af q
theorem hy.base{w l}{B':Nat}(h:hy a w b l)(c:B'<=a):hy B' w b l:=⟨gC h.1 c,h.2⟩
theorem fq.base{B t w d v b}{B':Nat}(h:fq B t w d v b)(a:B'<=B):fq B' t w d v b:=
 ⟨h.ai,aoS a h.hB,⟨gC h.ae.1 a,fun o c=>(h.ae.2.1 o c).base a,h.ae.2.2⟩,h.hn,h.ad⟩
structure Shown (w:World) (r N:Nat) (aN aG aQ:Value) (aV:Nat->Value) (cops:Nat->List bw) (cp:Nat->Nat->Value) (has:Nat->Nat->Nat) (c:Nat) (S:List bu):Prop where
 room:e2 w r N aN aG aQ aV cops cp has
 hc:c<N
 perm:S.Perm ((iV cops (has c) N).map bw.p)
 sort:xl S
theorem Shown.af{w r N a b d e f g has c S}{w':World}(h:Shown w r N a b d e f g has c S)(i:J w w'):Shown w' r N a b d e f g has c S:=
 ⟨h.room.af i,h.hc,h.perm,h.sort⟩
theorem Shown.len{r g c}(e:Shown d r a b k l j f g h c n):(iV f (h c) a).length<=240:=by
 have :=Ke f (h c) a (fun i m=>e.room.hsz i m);have :=e.room.hN;omega
theorem TH(g:Shown d e m b k l j f i h a n):O 152 #[Z e,A a] d fun q x=>
   ∃c t r,q=.returned (Z c)/\fq d.heap.size 240 x c t r/\r.map dA.p=n.foldl b0 c2/\J d x:=by
 have I:=g.len;have s:=aa g;clear g;go_enter func152,ntmps152;go_wp2_with fail
 refine(TG s.o.room a s.o.hc).mono ?_;rintro q E ⟨v,rfl,y,z⟩;have F:=aa y;clear y;have u:=aa z;clear z;go_wp2_with fail
 refine(aca v _ n s.o.perm s.o.sort (by omega) E F.o).mono ?_;rintro q L ⟨c,t,r,rfl,B,C,D⟩;have w:=aa (And.intro B (And.intro C D));clear B C D;go_wp2;go_ret
 exact⟨c,t,r,rfl,(w.o.1.mono (by omega)).base u.o.size,w.o.2.1,u.o.trans (w.o.2.2.mono u.o.size)⟩
theorem GJ(g:e2 d e a b k l j f i h)(c r s:Int)(t:Bool)(n:¬(0<=c/\c<a)):
  O 147 #[Z e,A c,.agg #[A r,A s],.bool t] d fun m u=>
   m=.returned (.tuple #[.pointer none,A 2])/\J d u:=by
 have v:=aa g;clear g;have p:decide (0<=c/\c<a)=false:=decide_eq_false n;have w:=aa p;clear p n;go_enter func147,ntmps147;go_wp2_with fail
 refine(xo (v.o.af ((aoQ _ d).alloc (aoP _) _)) c).mono ?_;rintro m y ⟨q,x⟩;rw[w.o]at q;subst q;subst x;go_wp2;go_ret2
 exact⟨rfl,(aoQ _ _).alloc (aoP _) _⟩
structure sw (w0 w:World) (D:List ba) (k:Nat) (d:Nat) (go cap:Nat) (os:List dA):Prop where
 doc:fq w0.heap.size 240 w d (.slice (some (H go)) os.length cap) os
 eq:os.map dA.p=D
 lt:k<os.length
 below:J w0 w
theorem acg{N}(r:Shown d m N b k l j f i h e n)(t u:Int)(D:Bool):
  O 147 #[Z m,A e,.agg #[A t,A u],.bool D] d fun g R=>
   (cK (iL (t,u)) (n.foldl b0 c2)<0/\g=.returned (.tuple #[.pointer none,A 3])/\J d R)\/
   (∃c:Nat,cK (iL (t,u)) (n.foldl b0 c2)=(c:Int)/\∃E:c<(n.foldl b0 c2).length,
    (((n.foldl b0 c2)[c].list≠D/\g=.returned (.tuple #[.pointer none,A 4])/\J d R)\/
     ((n.foldl b0 c2)[c].list=D/\∃q x F s,g=.returned (.tuple #[.pointer (some (K x (c*4))),A 0])/\sw d R (n.foldl b0 c2) c q x F s))):=by
 have X:decide (0<=(e:Int)/\(e:Int)<N)=true:=decide_eq_true (by have :=r.hc;omega);have fO:=aa X;clear X;have Y:=aa r;clear r;generalize kv:n.foldl b0 c2=y;have vL:=aa kv;clear kv;go_enter func147,ntmps147;go_wp2_with fail
 refine(xo (Y.o.room.af ((aoQ _ d).alloc (aoP _) _)) e).mono ?_;rintro g S ⟨he,hw⟩;rw[fO.o]at he;subst he;subst hw;go_wp2_with fail
 refine(TH (Y.o.af ((aoQ _ d).alloc (aoP _) _))).mono ?_;rintro g S ⟨q,mH,s,rfl,ry,z,I⟩;rw[vL.o]at z;have cr:=af (a:=(V d 0)) (v:=A t) I (by simp[go_sem]);have bx:=af (a:=(V d 1)) (v:=A u) I (by simp[go_sem]);have di:J d S:=((aoQ _ d).alloc (aoP _) _).trans (I.mono (by simp));have w:=aa (ry.base (B':=d.heap.size) (by simp));clear ry I;have ax:=aa di;clear di;have B:=aa z;clear z;go_wp2_with fail
 refine(B8 d.heap.size q mH s t u S w.o.cell w.o.ae).mono ?_;rintro g w2 ⟨rfl,U⟩;have TI:cK (lo (t,u)) s=cK (iL (t,u)) y:=by rw[<-B.o,J6]
 have TJ:=aa TI;clear TI;replace w:=aa (w.o.af U);have C:=aa (ax.o.trans (U.mono ax.o.size));clear U cr bx;have aE:=yz (lo (t,u)) s;have kq:=Cc (lo (t,u)) s;by_cases W:cK (lo (t,u)) s<0
 ·have e0:=aa W
  have aj:cK (lo (t,u)) s= -1:=by omega
  clear W aE kq;go_wp2;go_ret2
  exact .inl ⟨by rw[<-TJ.o];exact e0.o,rfl,C.o⟩
 ·obtain⟨c,E⟩:=aqe (a:=cK (lo (t,u)) s) (by omega)
  have L:c<s.length:=by omega
  obtain⟨x,F,cj,aH,Cn,c9,yB,dh,gv,nG,bo,z⟩:=w.o.row L;unfold maxLen at dh;subst aH;have bc:=w.o.cell;have bd:w2.cell? (K x (c*4+2))=some (.bool s[c].list):=by simp[World.cell?,c9,bo]
  have M:c<y.length:=by rw[<-B.o];simpa using L
  have nE:y[c].list=s[c].list:=by
   have :y[c]=s[c].p:=by simp only[<-B.o,apy]
   rw[this];rfl
  have P:=aa nE;clear nE;clear Cn c9 gv nG bo z aE kq W;rw[E];have gM:=aa E;clear E;have Q:=aa (show cK (iL (t,u)) y=(c:Int) by rw[<-TJ.o];exact gM.o);generalize s[c].list=ol at *;cases ol<;>cases D
  all_goals go_wp2
  all_goals go_ret2
  ·exact .inr ⟨c,Q.o,M,.inr ⟨P.o,q,x,F,s,rfl,w.o,B.o,L,C.o⟩⟩
  ·exact .inr ⟨c,Q.o,M,.inl ⟨by rw[P.o];simp,rfl,C.o⟩⟩
  ·exact .inr ⟨c,Q.o,M,.inl ⟨by rw[P.o];simp,rfl,C.o⟩⟩
  ·exact .inr ⟨c,Q.o,M,.inr ⟨P.o,q,x,F,s,rfl,w.o,B.o,L,C.o⟩⟩
def oF (D:List ba) (x:PId) (a:Bool):Except Int Nat:=
 if cK (iL x) D<0 then .error 3
 else match D[(cK (iL x) D).toNat]? with
  |some o=>if o.list=a then .ok (cK (iL x) D).toNat else .error 4
  |none=>.error 3
theorem ach{x:PId}{a:Bool}(h:cK (iL x) q<0):oF q x a=.error 3:=by unfold oF;rw[if_pos h]
theorem TK{x:PId}{b:Bool}(h:cK (iL x) q=(a:Int))(c:a<q.length):oF q x b=if q[a].list=b then .ok a else .error 4:=by
 unfold oF;rw[if_neg (by omega),h];simp[c]
def fD (o:ba) (key:ByteArray) (x:PId):List cE:=match o.ss.find? (eG key x) with |some s=>s.ad|none=>[]
theorem GK(q:Shown d a m b k l j f i h e n)(t u:Int)(v:Bool):
  O 147 #[Z a,A e,.agg #[A t,A u],.bool v] d fun o y=>
   (∃g,oF (n.foldl b0 c2) (t,u) v=.error g/\(g=3\/g=4)/\o=.returned (.tuple #[.pointer none,A g])/\J d y)\/
   (∃c p w z B,oF (n.foldl b0 c2) (t,u) v=.ok c/\o=.returned (.tuple #[.pointer (some (K w (c*4))),A 0])/\sw d y (n.foldl b0 c2) c p w z B):=by
 refine(acg q t u v).mono fun o y E=> ?_
 rcases E with⟨x,r,s⟩|⟨c,x,D,⟨r,s,C⟩|⟨r,p,w,z,B,s,C⟩⟩
 ·exact .inl ⟨3,ach x,.inl rfl,r,s⟩
 ·exact .inl ⟨4,by rw[TK x D,if_neg r],.inr rfl,s,C⟩
 ·exact .inr ⟨c,p,w,z,B,by rw[TK x D,if_pos r],s,C⟩
theorem sw.af{a w D k d b cap c}(h:sw a w D k d b cap c){w':World}(e:J w w'):sw a w' D k d b cap c:=⟨h.doc.af e,h.eq,h.lt,h.below.trans (e.mono h.below.size)⟩
theorem sw.gY{b w D k d c e a}(h:sw b w D k d c e a):hy b.heap.size w (a[k]'h.lt).gY (a[k]'h.lt).ss:=h.doc.ae.2.1 _ (aoY _)
theorem sw.cell{w c b}(h:sw d w q a m e c b):w.cell? (K e (a*4+3))=some (b[a]'h.lt).gY:=(xa.cells h.doc.ae rfl a h.lt).2.2.2
theorem sw.ss{b w D k d c e a}(h:sw b w D k d c e a):(D[k]?.map ba.ss)=some ((a[k]'h.lt).ss.map bD.p):=by
 obtain⟨g,rfl,f,i⟩:=h;simp[f,dA.p]
theorem sw.len{k cap b}(h:sw d r q k a e cap b):(b[k]'h.lt).ss.length<=240/\∀s∈(b[k]'h.lt).ss,s.ad.length<=240:=h.doc.ad _ (aoY _)
theorem TL{l:List bD}{key:ByteArray}{x:PId}:(l.map bD.p).find? (eG key x)=if cK (hz key x) l<0 then none else(l[(cK (hz key x) l).toNat]?).map bD.p:=by
 have t:=yz (hz key x) l;split
 ·rename_i b
  rw[aqp];intro s g;obtain⟨c,h,rfl⟩:=aoX.1 g;unfold cK at b;split at b
  ·omega
  ·rename_i e
   rw[aqX]at e;have :=e c h;show ¬hz key x c=true;rw[this];simp
 ·rename_i b
  obtain⟨k,d⟩:=aqe (a:=cK (hz key x) l) (by omega);rw[d];have f:k<l.length:=by omega
  have m:l.findIdx? (hz key x)=some k:=by
   unfold cK at d;split at d
   ·rename_i i n;rw[n];congr 1;omega
   ·omega
  obtain⟨_,o,q⟩:=aqc.1 m;simp only[Int.ofNat_eq_natCast,aqN,apH f,apw];rw[aqF];refine⟨o,k,by simpa using f,by simp,fun j r=> ?_⟩;have :=q j r;rw[apy];show(!hz key x l[j])=true;simpa using this
def lQ (D:List ba) (x:PId) (key:ByteArray):Except Int (List cE):=
 match oF D x false with
 |.error n=>.error n
 |.ok k=>if km key then .ok (match D[k]? with |some o=>fD o key (0,0)|none=>[]) else .error 5
theorem Kj{N aQ}(t:Shown d e N b k aQ j f i h m n)(B C:Int)(key:ByteArray)(Y:key.size<=maxLen):
  O 143 #[Z e,A m,.agg #[A B,A C],.string key] d fun g w'=>
   J d w'/\((∃c,(c=3\/c=4\/c=5)/\lQ (n.foldl b0 c2) (B,C) key=.error c/\g=.returned (.tuple #[.slice none 0 0,A c]))\/
   (∃v L,lQ (n.foldl b0 c2) (B,C) key=.ok L/\L.length<=240/\g=.returned (.tuple #[v,A 0])/\k1 w' v L)):=by
 have aC:=aa t;clear t;generalize kv:n.foldl b0 c2=mf;have vL:=aa kv;clear kv;have HKF:=aa (fun W=>abb key W Y);clear Y;go_enter func143,ntmps143;go_wp2_with fail
 refine(GK (aC.o.af ((aoQ _ d).alloc (aoP _) _)) B C false).mono ?_;rw[vL.o];have D:=aa ((aoQ d.heap.size d).alloc (aoP _) (.cells #[A B,A C] 36));rintro g w1 (⟨c,E,z,rfl,aq⟩|⟨r,u,go,cap,os,E,rfl,dT⟩)
 ·have aT:=aa (And.intro E aq);clear E aq
  have M:=aa z;have sx:¬c=0:=by omega
  clear z;go_wp2;go_ret2
  exact⟨D.o.trans (aT.o.2.mono D.o.size),.inl ⟨c,by have :=M.o;omega,by unfold lQ;rw[aT.o.1],rfl⟩⟩
 ·have H1:=aa E;clear E
  have y:=aa dT;clear dT;go_wp2_with fail
  refine(HKF.o _).mono ?_;rintro g w2 ⟨rfl,eD⟩;subst eD;cases lv:km key
  ·go_wp2
   go_ret2
   exact⟨D.o.trans (y.o.below.mono D.o.size),.inl ⟨5,by omega,by unfold lQ;rw[H1.o];simp[lv],rfl⟩⟩
  ·have P:=aa y.o.gY
   have lx:=aa y.o.cell;have hle:=y.o.len;have p4:=aa hle;clear hle;have k4:=aa y.o.ss;have qI:=y.o.lt;generalize os[r]=w at *;obtain⟨bX,bQ,F,k2,rn,Q⟩:=bp P.o.1;unfold maxLen at rn;have R:=lx.o;rw[F]at R;have kO:=aa (show lQ mf (B,C) key=.ok (match(w.ss.map bD.p).find? (eG key (0,0)) with |some s=>s.ad|none=>[]) by
    unfold lQ;rw[H1.o];simp only[lv,if_true];have :=k4.o;cases ai:mf[r]? with
    |none=>rw[ai]at this;cases this
    |some o=>rw[ai]at this;simp at this;simp only[fD,this])
   go_wp2_with fail
   refine(Ca _ go (r*4) _ w.ss key 0 0 _ lx.o P.o).mono ?_;rintro g w2 ⟨rfl,S⟩;replace R:=af S R;have bf:=aa S;clear S;have aE:=yz (hz key (0,0)) w.ss;have kq:=Cc (hz key (0,0)) w.ss;have GL:=aa (TL (l:=w.ss) (key:=key) (x:=(0,0)));have dr:=aa (D.o.trans ((y.o.below.trans (bf.o.mono y.o.below.size)).mono D.o.size));by_cases z:cK (hz key (0,0)) w.ss<0
   ·have aj:cK (hz key (0,0)) w.ss= -1:=by omega
    have M:=aa z;clear aE kq z Q;go_wp2;go_ret2
    refine⟨dr.o,.inr ⟨_,[],?_,by simp,rfl,Nt _⟩⟩;rw[kO.o,GL.o,if_pos M.o]
   ·obtain⟨q,hi⟩:=aqe (a:=cK (hz key (0,0)) w.ss) (by omega)
    have U:q<w.ss.length:=by omega
    obtain⟨gs,rfl⟩:=Q q U;have X:=aa (P.o.af bf.o);rw[F]at X;obtain⟨dG,ee,ew,hU⟩:=hy.cells X.o rfl q U;have I:=X.o.2 w.ss[q] (aoY _);obtain⟨lR,uB,jq,_,_,_⟩:=bp I;rw[jq]at hU I;have nJ:=aa I;clear I;have NU:=aa z;have cZ:=aa hi;clear aE kq z Q dG ee ew;have dN:=aa F;clear F;go_wp2;go_ret2
    refine⟨dr.o,.inr ⟨_,w.ss[q].ad,?_,p4.o.2 _ (aoY _),rfl,nJ.o⟩⟩;rw[kO.o,GL.o,if_neg (by have :=NU.o;omega),cZ.o];simp[U,bD.p]
def rC (d:Nat):ByteArray:=⟨#[UInt8.ofNat (48+d)]⟩
theorem aci(W:World):(Instr.slice 9 (.string ⟨#[48,49,50,51,52,53,54,55,56,57]⟩) (some (A 0)) (some (A 1)) none).run prog W=.ok (.string (rC 0)) W:=by kernel_rfl
theorem acj(W:World):(Instr.slice 9 (.string ⟨#[48,49,50,51,52,53,54,55,56,57]⟩) (some (A 1)) (some (A 2)) none).run prog W=.ok (.string (rC 1)) W:=by kernel_rfl
theorem ack(W:World):(Instr.slice 9 (.string ⟨#[48,49,50,51,52,53,54,55,56,57]⟩) (some (A 2)) (some (A 3)) none).run prog W=.ok (.string (rC 2)) W:=by kernel_rfl
theorem acm(W:World):(Instr.slice 9 (.string ⟨#[48,49,50,51,52,53,54,55,56,57]⟩) (some (A 3)) (some (A 4)) none).run prog W=.ok (.string (rC 3)) W:=by kernel_rfl
theorem acn(W:World):(Instr.slice 9 (.string ⟨#[48,49,50,51,52,53,54,55,56,57]⟩) (some (A 4)) (some (A 5)) none).run prog W=.ok (.string (rC 4)) W:=by kernel_rfl
theorem aco(W:World):(Instr.slice 9 (.string ⟨#[48,49,50,51,52,53,54,55,56,57]⟩) (some (A 5)) (some (A 6)) none).run prog W=.ok (.string (rC 5)) W:=by kernel_rfl
theorem acp(W:World):(Instr.slice 9 (.string ⟨#[48,49,50,51,52,53,54,55,56,57]⟩) (some (A 6)) (some (A 7)) none).run prog W=.ok (.string (rC 6)) W:=by kernel_rfl
theorem acq(W:World):(Instr.slice 9 (.string ⟨#[48,49,50,51,52,53,54,55,56,57]⟩) (some (A 7)) (some (A 8)) none).run prog W=.ok (.string (rC 7)) W:=by kernel_rfl
theorem acr(W:World):(Instr.slice 9 (.string ⟨#[48,49,50,51,52,53,54,55,56,57]⟩) (some (A 8)) (some (A 9)) none).run prog W=.ok (.string (rC 8)) W:=by kernel_rfl
theorem acs(W:World):(Instr.slice 9 (.string ⟨#[48,49,50,51,52,53,54,55,56,57]⟩) (some (A 9)) (some (A 10)) none).run prog W=.ok (.string (rC 9)) W:=by kernel_rfl
theorem acu(d:Nat)(h:d<10)(W:World):(Instr.slice 9 (.string ⟨#[48,49,50,51,52,53,54,55,56,57]⟩) (some (A (d:Int))) (some (A ((d:Int)+1))) none).run prog W=.ok (.string (rC d)) W:=by
 have a:d=0\/d=1\/d=2\/d=3\/d=4\/d=5\/d=6\/d=7\/d=8\/d=9:=by omega
 rcases a with rfl|rfl|rfl|rfl|rfl|rfl|rfl|rfl|rfl|rfl
 ·exact aci W
 ·exact acj W
 ·exact ack W
 ·exact acm W
 ·exact acn W
 ·exact aco W
 ·exact acp W
 ·exact acq W
 ·exact acr W
 ·exact acs W
theorem acv(h:¬a<10):Lib.decDigits a=Lib.decDigits (a/10)++[UInt8.ofNat (48+a%10)]:=by rw[Lib.decDigits,dif_neg h]
theorem acw(x:ByteArray):x=⟨x.data.toList.toArray⟩:=by cases x;simp
theorem Au{a b:ByteArray}(h:a=b):Ending.returned (.string a)=.returned (.string b):=by rw[h]
def yG (n:Int):ByteArray:=⟨(Lib.itoa n).toArray⟩
theorem TM(a:Nat)(n:a<=9223372036854775807)(w:World):
  O 194 #[A a] w fun e i=>e=.returned (.string ⟨(Lib.decDigits a).toArray⟩)/\i=w:=by
 have f:(Lib.decDigits a).length<=20:=by rw[Lib.decDigits_length];exact Lib.nDigits_le20 a (by omega)
 have j:=aa f;clear f;have p:¬(a:Int)= -9223372036854775808:=by omega
 go_enter func194,ntmps194;go_wp2;go_loop [0,3] (fun b s=>∃q:Nat,∃t:ByteArray,q<=a/\b=A q/\s=.string t/\Hq (Lib.decDigits a=Lib.decDigits q++t.data.toList)) (fun b _=>(intOf b).toNat)
 case atStart=>exact⟨a,⟨#[]⟩,aoP _,rfl,rfl,by simp[Hq]⟩
 case round=>
  obtain⟨q,t,r,rfl,rfl,c⟩:=hrel;have u:t.size<=20:=by
   have e:=congrArg List.length c.o;simp only[aoW]at e;have v:t.data.toList.length=t.data.size:=arq;have x:=j.o;have y:t.data.size=t.size:=rfl;omega
  have k:=fun W=>acu (q%10) (by omega) W
  rw[show((q%10:Nat):Int)=(q:Int)%10 by omega]at k;have z:(rC (q%10)).size=1:=rfl;have g:(rC (q%10)++t).data.toList=UInt8.ofNat (48+q%10)::t.data.toList:=by
   rw[ByteArray.data_append];simp[rC]
  have h:=aa g;clear g;by_cases d:q<10
  ·have l:(q:Int)/10=0:=by omega
   go_wp2;go_ret
   refine⟨Au ?_,rfl⟩;have e:=c.o;rw[Lib.decDigits_one d]at e;have m:=acw (rC (q%10)++t);rw[e,m,h.o,Nat.mod_eq_of_lt d];rfl
  ·have l:¬(q:Int)/10=0:=by omega
   go_wp2;go_round
   case rel=>
    refine⟨q/10,_,by omega,by go_num,rfl,?_⟩;have e:=c.o;rw[acv d]at e;show _=_;rw[e,h.o];simp
   case measure=>simp[intOf];omega
theorem acx(n:Int)(p: -9223372036854775808<=n)(q:n<=9223372036854775807)(w:World):
  O 194 #[A n] w fun e c=>e=.returned (.string (yG n))/\c=w:=by
 by_cases f:n<0
 ·by_cases g:n= -9223372036854775808
  ·subst g
   go_enter func194,ntmps194;go_wp2;go_ret
   exact⟨Au (by decide+kernel),rfl⟩
  ·obtain⟨k,b⟩:=aqe (a:= -n) (by omega)
   have h:k<=9223372036854775807:=by omega
   have i:(Lib.decDigits k).length<=20:=by rw[Lib.decDigits_length];exact Lib.nDigits_le20 k (by omega)
   have r:(ByteArray.mk (Lib.decDigits k).toArray).size<=20:=by show(Lib.decDigits k).toArray.size<=20;simpa using i
   have d:=aa b;clear b;have j:=aa (TM k h);go_enter func194,ntmps194;go_wp2_with (go_at_call 194;go_must (rw[d.o];refine(j.o _).mono ?_;rintro e c ⟨rfl,rfl⟩))
   go_ret
   refine⟨Au ?_,rfl⟩;have e:Lib.itoa n=45::Lib.decDigits k:=by
    unfold Lib.itoa;rw[if_pos f];congr 2;have :=d.o;omega
   unfold yG;rw[e];apply aqG;simp
 ·obtain⟨k,b⟩:=aqe (a:=n) (by omega)
  subst b;refine(TM k (by omega) w).mono fun e c ⟨l,m⟩=>⟨?_,m⟩
  rw[l];unfold yG Lib.itoa;rw[if_neg (by omega)];rfl
theorem TQ(n:Int)(a: -9223372036854775808<=n)(b:n<=9223372036854775807):(yG n).size<=21:=by
 have :=Lib.itoa_length_le n a b;show(Lib.itoa n).toArray.size<=21;simpa using this
def j9 (a:PId->ByteArray) (h:cE):ByteArray:=if et h.obj.1 h.obj.2 0 0 then yG h.num else a h.obj
def bar:ByteArray:=⟨#[124]⟩
def kP (a:PId->ByteArray):List cE->ByteArray
 |[]=>⟨#[]⟩
 |h::r=>r.foldl (fun s x=>(s++bar)++j9 a x) (j9 a h)
theorem acy(a:PId->ByteArray)(l:List cE)(x:cE)(h:l≠[]):kP a (l++[x])=(kP a l++bar)++j9 a x:=by
 cases l with
 |nil=>exact absurd rfl h
 |cons y l=>simp[kP,apX]
theorem jV(a b:ByteArray):(a++b).size=a.size+b.size:=by
 show(a++b).data.size=_;rw[ByteArray.data_append];simp
theorem empty_append(x:ByteArray):(⟨#[]⟩:ByteArray)++x=x:=by apply aqG;simp
theorem NV(b:PId->ByteArray){c:List cE}(d:a<c.length)(f:0<a):kP b (c.take (a+1))=(kP b (c.take a)++bar)++j9 b c[a]:=by
 rw[aph d];exact acy b _ _ (by intro e;have :=congrArg List.length e;rw[ao7,apv]at this;omega)
theorem acz(a:PId->ByteArray)(b:List cE)(k:Nat)(c:k<b.length):(kP a (b.take k)).size<=(kP a (b.take (k+1))).size:=by
 by_cases d:0<k
 ·rw[NV a c d,jV,jV];omega
 ·have :k=0:=by omega
  subst this;show 0<=_;omega
theorem NW(a:PId->ByteArray)(b:List cE):∀(j k:Nat),k+j=b.length->(kP a (b.take k)).size<=(kP a b).size
 |0,k,h=>by rw[apc (by omega)];exact aoP _
 |j+1,k,h=>aoS (acz a b k (by omega)) (NW a b j (k+1) (by omega))
theorem acA(a:PId->ByteArray)(b:List cE)(k:Nat)(c:k<b.length):(j9 a b[k]).size<=(kP a b).size:=by
 refine aoS ?_ (NW a b (b.length-(k+1)) (k+1) (by omega));by_cases d:0<k
 ·rw[NV a c d,jV];omega
 ·have :k=0:=by omega
  subst this;rw[aph c];exact aoP _
def ka (n:Int):Prop:= -9223372036854775808<=n/\n<=9223372036854775807
theorem acB(B t d:Nat)(E:Value)(F:List dA)(b:PId->ByteArray)(G:PId->Prop)(r:Nat)(TR:r<=4)(I:∀(x:PId) (W:World),G x->fq B t W d E F->O 153 #[Z d,.agg #[A x.1,A x.2],A ((r:Int)+1)] W fun e u=>e=.returned (.string (b x))/\J W u)(v:Value)(c:List cE)(w:World)(L:fq B t w d E F)(h:k1 w v c)(M:∀x∈c,et x.obj.1 x.obj.2 0 0=false->G x.obj)(N:∀x∈c,ka x.num)(hsz:(kP b c).size<=1125899906842624):
  O 177 #[Z d,v,A r] w fun e u=>e=.returned (.string (kP b c))/\J w u:=by
 obtain⟨a,cap,rfl,jk,dh,P⟩:=bp h;unfold maxLen at dh;have du:=aa P;clear P;have aC:=aa h;clear h;have Q:=aa L;clear L;have yH:=aa I;clear I;have fi:=aa M;clear M;have e0:=aa N;clear N;go_enter func177,ntmps177;go_wp2;go_loopw [7,8] (fun s i wr=>∃k:Nat,k<=c.length/\i=A k/\s=.string (kP b (c.take k))/\J w wr) (fun _ i _=>c.length-(intOf i).toNat)
 case atStart=>exact⟨0,aoR _,rfl,rfl,aoQ _ _⟩
 case round=>
  obtain⟨k,hk,rfl,rfl,j⟩:=hrel;have qK:=NW b c (c.length-k) k (by omega);by_cases m:k<c.length
  ·obtain⟨g,rfl⟩:=du.o k m
   obtain⟨d0,d1,R,U,X⟩:=k1.cells aC.o rfl k m;replace R:=af j R;replace U:=af j U;replace X:=af j X;clear d0 d1;have hit:=acA b c k m;have heq:=uv;have q:=e0.o c[k] (aoY _);have Y:=aa (acx c[k].num q.1 q.2);have sj:bar.size=1:=rfl;have TT:=aa (fun n=>NV b m n);have TU:=aa (show k=0->kP b (c.take (k+1))=j9 b c[k] from fun e=>by subst e;rw[aph m];rfl);have TV:((⟨#[124]⟩:ByteArray))=bar:=rfl;generalize bY:kP b (c.take k)=S at *;have hT:=aa bY;clear bY;have cG:=aa (show k=0->∀x,S++x=x from fun e x=>by rw[<-hT.o,e];exact empty_append x);have f:=aa j;clear j;have hSb:(S++bar).size=S.size+1:=jV _ _;cases y:et c[k].obj.1 c[k].obj.2 0 0
   ·have HGx:=fi.o c[k] (aoY _) y
    have l:=aa (show j9 b c[k]=b c[k].obj by unfold j9;rw[y];rfl);have hTs:(b c[k].obj).size<=1125899906842624:=by rw[<-l.o];omega
    have TW:=aa (fun W=>yH.o c[k].obj W HGx);by_cases n:0<k
    ·go_wp2_with (go_at_call 153;go_must (refine(TW.o _ (Q.o.af f.o)).mono ?_;rintro e z ⟨rfl,p⟩;have C:=aa p;clear p))
     go_roundw
     case rel=>exact⟨k+1,by omega,by go_num,by rw[TT.o n,l.o],f.o.trans (C.o.mono f.o.size)⟩
     case measure=>simp[intOf];omega
    ·go_wp2_with (go_at_call 153;go_must (refine(TW.o _ (Q.o.af f.o)).mono ?_;rintro e z ⟨rfl,p⟩;have C:=aa p;clear p))
     go_roundw
     case rel=>exact⟨k+1,by omega,by go_num,by rw[TU.o (by omega),l.o,cG.o (by omega)],f.o.trans (C.o.mono f.o.size)⟩
     case measure=>simp[intOf];omega
   ·have l:=aa (show j9 b c[k]=yG c[k].num by unfold j9;rw[y];rfl)
    have hTs:=TQ c[k].num q.1 q.2;by_cases n:0<k
    ·go_wp2_with (go_at_call 194;go_must (refine(Y.o _).mono ?_;rintro e z ⟨rfl,D⟩;subst D))
     go_roundw
     case rel=>exact⟨k+1,by omega,by go_num,by rw[TT.o n,l.o],f.o⟩
     case measure=>simp[intOf];omega
    ·go_wp2_with (go_at_call 194;go_must (refine(Y.o _).mono ?_;rintro e z ⟨rfl,D⟩;subst D))
     go_roundw
     case rel=>exact⟨k+1,by omega,by go_num,by rw[TU.o (by omega),l.o,cG.o (by omega)],f.o⟩
     case measure=>simp[intOf];omega
  ·go_wp2
   go_ret
   refine⟨Au ?_,j⟩;rw[apc (by omega)]
def comma:ByteArray:=⟨#[44]⟩
def colon:ByteArray:=⟨#[58]⟩
def mg (b:PId->ByteArray) (d:Bool) (c:ByteArray) (s:bU):ByteArray:=
 if s.ad.length=0 then c
 else
  let a:=if c.toList.isEmpty then c else c++comma
  (if d then a else(a++s.key)++colon)++kP b s.ad
def lS (a:PId->ByteArray) (b:Bool) (M:List bU):ByteArray:=M.foldl (mg a b) ⟨#[]⟩
def uC (a:PId->ByteArray) (b:Bool) (M:List bU):ByteArray:=
 if b then((⟨#[91]⟩:ByteArray)++lS a b M)++⟨#[93]⟩ else((⟨#[123]⟩:ByteArray)++lS a b M)++⟨#[125]⟩
theorem Kk(b:PId->ByteArray)(c:Bool){M:List bU}(h:a<M.length):lS b c (M.take (a+1))=mg b c (lS b c (M.take a)) M[a]:=by
 unfold lS;rw[aph h,apX];rfl
theorem acC(a:PId->ByteArray)(c:Bool)(b:ByteArray)(s:bU):b.size<=(mg a c b s).size:=by
 unfold mg;split
 ·exact aoP _
 ·split <;>split <;>simp only[jV]<;>omega
theorem NX(a:PId->ByteArray)(b:Bool)(M:List bU):∀(j k:Nat),k+j=M.length->(lS a b (M.take k)).size<=(lS a b M).size
 |0,k,h=>by rw[apc (by omega)];exact aoP _
 |j+1,k,h=>by
  refine aoS ?_ (NX a b M j (k+1) (by omega));rw[Kk a b (by omega)];exact acC a b _ _
theorem acD(a:PId->ByteArray)(b:Bool)(c:ByteArray)(s:bU)(h:¬s.ad.length=0):(kP a s.ad).size<=(mg a b c s).size/\(b=false->c.size+s.key.size+1<=(mg a b c s).size):=by
 unfold mg;rw[if_neg h];constructor
 ·simp only[jV];omega
 ·intro d
  rw[d];have :colon.size=1:=rfl;simp only[jV,apG,if_false];split <;>(try simp only[jV])<;>omega
theorem acE(a:PId->ByteArray)(b:Bool)(M:List bU)(n:Nat)(c:n<M.length):(kP a M[n].ad).size<=(lS a b M).size/\(b=false->¬M[n].ad.length=0->M[n].key.size<=(lS a b M).size):=by
 have d:=NX a b M (M.length-(n+1)) (n+1) (by omega);rw[Kk a b c]at d;by_cases h:M[n].ad.length=0
 ·have :M[n].ad=[]:=aqg h
  rw[this];exact⟨by show 0<=_;omega,fun _ e=>absurd rfl e⟩
 ·have f:=acD a b (lS a b (M.take n)) M[n] h
  exact⟨by omega,fun g _=>by have :=f.2 g;omega⟩
def Kl (M:List bD):Prop:=M.Pairwise fun a b=>hA a.key b.key=true
theorem NY(a:ByteArray):hA a a=false:=Nq _
theorem NZ{a b c:ByteArray}(d:hA a b=true)(e:hA b c=true):hA a c=true:=Nr _ _ _ d e
def Cr (M:List bD) (n:Nat):ByteArray:=if h:0<n/\n<=M.length then(M[n-1]'(by omega)).key else⟨#[]⟩
theorem TX(M:List bD):Cr M 0=⟨#[]⟩:=by unfold Cr;rw[dif_neg (by omega)]
theorem GM(M:List bD)(h:a<M.length):Cr M (a+1)=M[a].key:=by unfold Cr;rw[dif_pos ⟨by omega,by omega⟩];rfl
theorem acF{r}{l M:List bD}(d:M.Perm l)(u:Kl M)(v:∀s∈l,hA ⟨#[]⟩ s.key=true){n:Nat}(p:n<l.length)(h:Np (Cr M n) l r):
  ∃i,∃b:i<l.length,r=(i:Int)/\l[i]=M[n]'(by rw[d.length_eq];exact p):=by
 have g:n<M.length:=by rw[d.length_eq];exact p
 have k:∀i j (b:i<M.length) (a:j<M.length),i<j->hA M[i].key M[j].key=true:=fun i j b a w=>apM.1 u i j b a w
 obtain⟨j,a,m⟩:∃j,∃a:j<l.length,l[j]=M[n]:=by
  obtain⟨j,a,e⟩:=apl.1 (d.mem_iff.1 (aoY (l:=M) g));exact⟨j,a,e⟩
 have o:hA (Cr M n) l[j].key=true:=by
  rw[m];cases n with
  |zero=>rw[TX];rw[<-m];exact v _ (aoY _)
  |succ n=>rw[GM M (by omega)];exact k n (n+1) (by omega) g (by omega)
 rcases h with⟨_,c⟩|⟨i,b,x,c,y⟩
 ·rw[c j a]at o;cases o
 ·refine⟨i,b,x,?_⟩
  obtain⟨q,t,eq⟩:=apl.1 (d.mem_iff.2 (aoY (l:=l) b));by_cases z:q=n
  ·subst z;exact eq.symm
  ·by_cases B:q<n
   ·obtain⟨f,rfl⟩:∃f,n=f+1:=⟨n-1,by omega⟩
    rw[GM M (by omega),<-eq]at c;by_cases e:q=f
    ·subst e;rw[NY]at c;cases c
    ·have :=NZ c (k q f t (by omega) (by omega))
     rw[NY]at this;cases this
   ·have :=y j a o
    rw[m,<-eq,k n q g t (by omega)]at this;cases this
end Go.Proofs.YtnkpogjiiohapaaGreatDoor
