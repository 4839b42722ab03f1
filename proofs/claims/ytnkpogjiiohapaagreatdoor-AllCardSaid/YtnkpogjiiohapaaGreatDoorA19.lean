/- Our own text. -/
import Derived.Sort.CutIn
import Derived.Stop.RegionWithIn
import Derived.Test.YtnkpogjiiohapaaGreatDoorA18
set_option linter.unusedSimpArgs false
set_option linter.unusedVariables false
set_option maxRecDepth 1000000
set_option maxHeartbeats 4000000
namespace Go.Proofs.YtnkpogjiiohapaaGreatDoor
open Go.RowKit Tryz
section
attribute [local go_sem] Oper.semAt_some
variable {a d:World}{b c e j k:Nat}{f:List ay}{h i:Nat->Prop}
def partOf (a:List PId) (k:Nat):List PId:=(a.drop (8*k)).take 8
def yz (a:List ay) (part:List PId):Nat:=(a.takeWhile λo=>decide (fe o∈part)).length
def m7 (a:List ay) (b:List PId) (c:List Nat):Nat×List (Nat×Nat):=c.foldl (λs k=>(s.1+yz (a.drop s.1) (partOf b k),s.2++[(s.1,yz (a.drop s.1) (partOf b k))])) (0,[])
theorem ack(a:List ay)(b:List PId)(c:List Nat)(k:Nat):m7 a b (c++[k])=((m7 a b c).1+yz (a.drop (m7 a b c).1) (partOf b k),(m7 a b c).2++[((m7 a b c).1,yz (a.drop (m7 a b c).1) (partOf b k))]):=by unfold m7;simp
theorem VR {α:Type} (p:α->Bool):∀l:List α,(l.takeWhile p).length<=l.length
 |[]=>bW _
 |x::l=>by
  unfold List.takeWhile;split
  .have :=VR p l
   simp_all
  simp
theorem acl {α:Type} (p:α->Bool):∀(l:List α) (j:Nat) (a:j<(l.takeWhile p).length),p (l[j]'(c0 a (VR p l)))=true
 |[],j,a=>by simp at a
 |x::l,j,a=>by
  cases b:p x with
  |false=>simp[List.takeWhile,b]at a
  |true=>
   match j with
   |0=>exact b
   |j+1=>
    have c:j<(l.takeWhile p).length:=by simp_all
    exact acl p l j c
theorem acm {α:Type} (p:α->Bool):∀(l:List α) (a:(l.takeWhile p).length<l.length),p l[(l.takeWhile p).length]=false
 |[],a=>by simp at a
 |x::l,a=>by
  cases b:p x with
  |false=>simp[List.takeWhile,b]
  |true=>
   have c:(l.takeWhile p).length<l.length:=by simp_all
   have :=acm p l c;simpa[List.takeWhile,b]using this
theorem VS(a:List ay)(part:List PId):yz a part<=a.length:=VR _ _
def BE (a:List ay) (b:List PId) (s:Nat×List (Nat×Nat)) (k:Nat):Nat×List (Nat×Nat):=(s.1+yz (a.drop s.1) (partOf b k),s.2++[(s.1,yz (a.drop s.1) (partOf b k))])
theorem acn(a:List ay)(b:List PId):∀(c:List Nat) (s:Nat×List (Nat×Nat)),s.1<=a.length->(c.foldl (BE a b) s).1<=a.length
 |[],s,h=>h
 |k::c,s,h=>by refine acn a b c (BE a b s k) ?_;have :=VS (a.drop s.1) (partOf b k);rw[ly]at this;unfold BE;omega
theorem amd(a:List ay)(b:List PId)(c:List Nat):(m7 a b c).1<=a.length:=acn a b c (0,[]) (b6 _)
theorem aco(b:List ay)(c:List PId):∀(a:List Nat) (s:Nat×List (Nat×Nat)),(a.foldl (BE b c) s).2.length=s.2.length+a.length
 |[],s=>rfl
 |k::a,s=>by have :=aco b c a (BE b c s k);simp only[Iz,iq];rw[this];unfold BE;simp only[dh,iq,sa];omega
theorem QQ(b:List ay)(c:List PId)(a:List Nat):(m7 b c a).2.length=a.length:=by show(a.foldl (BE b c) (0,[])).2.length=_;rw[aco];simp
def eW {α β:Type} (R:α->β->Prop):List α->List β->Prop
 |[],[]=>True
 |a::l,b::m=>R a b/\eW R l m
 |_,_=>False
theorem eW.snoc {α β:Type} {R:α->β->Prop} {a:α} {b:β} (h:R a b):∀{l:List α} {m:List β},eW R l m->eW R (l++[a]) (m++[b])
 |[],[],_=>⟨h,trivial⟩
 |[],_::_,c=>c.elim
 |_::_,[],c=>c.elim
 |_::_,_::_,c=>⟨c.1,eW.snoc h c.2⟩
theorem eW.len {α β:Type} {R:α->β->Prop}:∀{l:List α} {m:List β},eW R l m->l.length=m.length
 |[],[],_=>rfl
 |[],_::_,h=>h.elim
 |_::_,[],h=>h.elim
 |_::_,_::_,h=>by simp[eW.len h.2]
def Hy (d:Option Addr) (b:Nat×Nat) (u:Value):Prop:=∃a c,u=.iface 382 (.slice a b.2 c)/\b.2<=c/\c<=maxLen/\(0<b.2->∃p,d=some p/\a=some (K p.block (b.1*4)))
def acp (b:Option Addr) (c d:Nat) (a:Option Addr):Prop:=(b=none/\a=none)\/∃p o,b=some p/\a=some (K p.block o)/\(0<c-d->o=d*4)
structure Ff (w:World) (QR:Nat) (S:Nat->Prop) (ky:World) (dQ:Option Addr) (dL:Nat) (ls:List ay) (cM:List PId) (ks:List Nat) (W:World):Prop where
 row:∃v aK,W.heap[w.heap.size]?=some (.cells #[v] 165)/\W.ownsRow w.heap.size 147 1 v (m7 ls cM ks).2.length aK/\eW (Hy dQ) (m7 ls cM ks).2 aK
 left:∃a,acp dQ dL (m7 ls cM ks).1 a/\W.heap[QR]?=some (.cells #[.slice a (ls.length-(m7 ls cM ks).1) (dL-(m7 ls cM ks).1)] 202)
 pM:vK S ky W
 JT:J w W
 VT:ks.length<=3
theorem VU{i:Option Nat}(k:a.grownBy d i)(l:∀r,i=some r->c<=r/\∃o:Obj,a.heap[r]?=some o/\o.isCells=false){g:Array Value}{t:TypeId}{f:Nat×Nat}(h:a.heap[b]?=some (.cells g t f)):d.heap[b]?=some (.cells g t f):=by
 rw[k.block b (aU h) (λe=>by obtain⟨_,o,j,m⟩:=l b e.symm;rw[h]at j;cases j;cases m)]
 exact h
theorem Ff.grow{s x y z}{u:World}{w:Option Nat}(i:Ff d b h s x c f y z a)(F:∀k,h k->∃j t l,s.heap[k]?=some (.cells j t l))(I:d.heap.size<=e)(n:a.grownBy u w)(p:∀r,w=some r->e<=r/\∃o:Obj,a.heap[r]?=some o/\o.isCells=false):Ff d b h s x c f y z u:=by
 obtain⟨v,L,M,B,N⟩:=i.row;obtain⟨P,Q,R⟩:=i.left;refine⟨⟨v,L,VU n p M,B.kept n ?_,N⟩,⟨P,Q,VU n p R⟩,λk C=> ?_,ownFrom_below (β:=Unit) (bW _) I () a u w i.JT n p,i.VT⟩
 .cases S:v.ownBlock with
  |none=>exact .inl rfl
  |some g=>
   refine .inr λm=> ?_
   obtain⟨W,q⟩:=b0 B S;obtain⟨_,o,D,U⟩:=p g m.symm;rw[q]at D;cases D;cases U
 obtain⟨j,t,l,q⟩:=F k C;have E:=i.pM k C;rw[q]at E;rw[q];exact VU n p E
theorem ame{g}{j:Option Addr}(h:JR c a (.slice j g.length e) g)(n:j=some (H b))(k:Nat):Hx a b (8*k*2) (partOf g k):=λi l=>by
 subst n;have m:8*k+i<g.length:=by unfold partOf at l;rw[gU,ly]at l;omega
 have d:(partOf g k)[i]=g[8*k+i]:=by simp[partOf]
 rw[d];refine⟨?_,?_⟩
 .rw[show 8*k*2+i*2=(8*k+i)*2+0 by omega,jl (f:=nc) (λ_=>rfl) h rfl (8*k+i) m 0 (by omega)];rfl
 rw[show 8*k*2+i*2+1=(8*k+i)*2+1 by omega,jl (f:=nc) (λ_=>rfl) h rfl (8*k+i) m 1 (by omega)];rfl
theorem amf(a:List PId)(k:Nat):(partOf a k).length=Dh a.length (8*k):=by unfold partOf Dh;simp
def VV (f:Array TypeId->TypeId->Array Value->Sem Value) (a:Array TypeId) (b:TypeId) (args:Array Value):Sem Go.Next:=do pure (.value (<-f a b args))
theorem amg(b:Builtin)(d:b=.append)(a:Array TypeId)(c:TypeId)(e:Array Bool)(args:Array Value):builtin b a c e args=VV Builtin.append_ a c args:=by subst d;rfl
attribute [local go_sem↓] amg
theorem acq{b:Array TypeId}{c:TypeId}{args:Array Value}{e:Value}(h:(Builtin.append_ b c args).run prog a=.ok e d):(VV Builtin.append_ b c args).run prog a=.ok (.value e) d:=by unfold VV;rw[mL,h];rfl
theorem VW(h:J a d):KeepsOthers a d:=⟨h.size,λk o b _=>(h.block k (e8.1 b).1).trans b⟩
theorem amh(args:Array Value)(w:World):(callFunc 283 args).run prog w=.ok (.enter 283 args) w:=
 enters_of func283 (by rfl) rfl args w
theorem ami {bd:Nat} {I:Nat->Prop} {sp:Nat} {gt:Int} {ai:Nat->Int} {bt:List (PId×ay)} {q:gm} (h:dU d bd i I c sp k gt ai f bt q) {gk gJ:Nat} {bC:Nat->Int} (M:q9 d gk gJ c bC) (jE:∀w,w<c->0<=bC w/\ai w<=60) (h9:∀w,w<c->bC w<=60) (eM:∀x∈f,0<=x.op.id.2/\x.op.id.2<c) (cS:(f.map fe).Nodup):
  CallsIn Fence.wide 4 prog 275 #[Z bd,aa gk c gJ] d λe w'=>∃v aK L dQ dL U,e=ad v/\eV d.heap.size w' (.slice dQ L.length dL) L/\L.Perm (f.filter (uz bC))/\Bz L/\U=(m7 L (l4 bC ai c) (List.range (min (chunks (l4 bC ai c).length) 3))).2/\w'.ownsRow d.heap.size 147 1 v U.length aK/\eW (Hy dQ) U aK/\J d w':=by
 have qf:Fence.wide.round=none:=rfl;have h1:1<=4:=by omega
 have Bw:=h.hN;obtain⟨bw,bm,bq,ce,eN,j2⟩:=h.cells;clear bw bm bq eN j2;obtain⟨i0,hi,hz0,hz1,hz2⟩:=qH (P:=prog) (e:=147) (z:=.nilIface) (size:=1) (bytes:=16) (by rfl);have jA:=ag (λW (ah:J d W)=>al0 (h.ak ah).kB (M.ak ah) Bw eM cS);have ng:=ag (show(l4 bC ai c).length<=240 by have :=VK jE c (bW _);omega);have dT:=ag (λW (ah:J d W)=>al7 (h.ak ah) (M.ak ah) jE h9);refine callsIn_of_wp_marks func275 rfl trivial ?_ qf;simp only[ntmps275,K5,iq,sa,Nat.reduceAdd,Nat.reduceSub,SM,SN,SO,SP,sZ,p5];have qR:=h.lt _ h.cc;have qS:=World.new_ne d (K bd 3) ce;have aJ:=ag (aV d (.cells #[.slice none 0 0] 165));have aT:=ag h;clear h M jE h9 eM cS
 gi_wp2_with (first
  |(refine⟨trivial,?_⟩;gi_at_call 276;refine(F9.2 (jA.o _ aJ.o)).mono ?_;rintro e Q ⟨vl,L,rfl,o8,fH,VX,aA⟩;obtain⟨dQ,dL,rfl,AR,zJ,ys⟩:=bz o8;have cr:=ag (aN o8 (aN fH (aN VX ys)));have bF:=ag (bp aJ.o aA);have jf:=ag aA;have cj:=ag (bF.o.alloc bF.o.size (.cells #[.slice dQ L.length dL] 202));clear o8 fH VX aA ys)
  |(refine⟨trivial,?_⟩;gi_at_call 278;refine(F9.2 (dT.o _ cj.o)).mono ?_;rintro e w2 ⟨dA,rfl,js,bo⟩;obtain⟨ap,cp,rfl,pc,eM,Mj⟩:=bz js;have ew:=ag (aN js (aN bo Mj));have hZ:=ag (bp cj.o bo);clear js bo Mj)
  |(refine⟨trivial,?_⟩;gi_at_call 277;refine(amb Fence.wide _ trivial rfl _ _ _ _).mono ?_;rintro e w3 ⟨rfl,rfl⟩)
  |fail)
 obtain⟨X,QS⟩:∃X,X=l4 bC ai c:=⟨_,rfl⟩;have hz:X.length<=240:=by rw[QS];exact ng.o
 rw[<-QS]at ew pc⊢;have JN:=ag QS;clear QS;obtain⟨ky,CY⟩:∃ky,(w2.alloc (.cells #[.slice ap X.length cp] 378)).alloc (.cells #[A 8] 3)=ky:=⟨_,rfl⟩;have ox:ky.heap.size=w2.heap.size+2:=by rw[<-CY];simp
 have mW:=ag (show J w2 ky by rw[<-CY];exact(aV w2 _).alloc (by simp) _);have sM:=ag (show ky.heap[w2.heap.size]?=some (.cells #[.slice ap X.length cp] 378) by rw[<-CY,is _ _ (by simp)];exact bZ w2 _);have tB:=ag (show ky.heap[w2.heap.size+1]?=some (.cells #[A 8] 3) by rw[<-CY];have :=bZ (w2.alloc (.cells #[.slice ap X.length cp] 378)) (.cells #[A 8] 3);rwa [show(w2.alloc (.cells #[.slice ap X.length cp] 378)).heap.size=w2.heap.size+1 by simp]at this)
 rw[CY];clear CY;have acr:=hz1;have acs:=hz2;have hz1:=bF.o.size;have hz2:=ew.o.2.1.size;simp only[Y8]at hz2;have LK:=ag (bp hZ.o mW.o);have lZ:=ag (show eV d.heap.size ky (.slice dQ L.length dL) L from dI (dI (dI (ii cr.o.1 (by simp)) (aV Q (.cells #[.slice dQ L.length dL] 202))) ew.o.2.1) mW.o);have G2:=ag (show JR 0 ky (.slice ap X.length cp) X from dI (acb ew.o.1) mW.o);have Dj:=ag (show ky.heap[Q.heap.size]?=some (.cells #[.slice dQ L.length dL] 202) from bB (bB (bZ Q _) ew.o.2.1) mW.o);have JL:=ag (show ky.heap[d.heap.size]?=some (.cells #[.slice none 0 0] 165) from bB (bB (bB (bB (bZ d _) jf.o) (aV Q (.cells #[.slice dQ L.length dL] 202))) ew.o.2.1) mW.o);obtain⟨aQ,vy⟩:∃aQ,0<X.length->ap=some (H aQ):=by
  by_cases lh:0<X.length
  .obtain⟨g,aq⟩:=ew.o.2.2 0 lh;exact⟨g,λ_=>aq⟩
  exact⟨0,λh=>absurd h lh⟩
 obtain⟨S,VY⟩:∃S:Nat->Prop,S=λm=>m=w2.heap.size\/m=w2.heap.size+1\/(Value.slice ap X.length cp).ownBlock=some m\/(Value.slice dQ L.length dL).ownBlock=some m:=⟨_,rfl⟩
 have Fa:=ag (show ∀m,S m->∃k t C,ky.heap[m]?=some (.cells k t C)/\m<ky.heap.size from λm M=>by
  rw[VY]at M;rcases M with rfl|rfl|M|M
  .exact⟨_,_,_,sM.o,aU sM.o⟩
  .exact⟨_,_,_,tB.o,aU tB.o⟩
  .obtain⟨cur,hc⟩:=b0 G2.o M;exact⟨_,_,_,hc,aU hc⟩
  obtain⟨cur,hc⟩:=b0 lZ.o M;exact⟨_,_,_,hc,aU hc⟩)
 have iQ:=ag (show S w2.heap.size/\S (w2.heap.size+1)/\(∀m,(Value.slice ap X.length cp).ownBlock=some m->S m)/\(∀m,(Value.slice dQ L.length dL).ownBlock=some m->S m)/\¬S d.heap.size/\¬S Q.heap.size/\∀m k C,S m->ky.heap[m]?≠some (.cells k 147 C) by
  rw[VY];refine⟨.inl rfl,.inr (.inl rfl),λm M=>.inr (.inr (.inl M)),λm M=>.inr (.inr (.inr M)),?_,?_,?_⟩
  .rintro(e|e|e|e)
   .omega
   .omega
   .exact iX G2.o e JL.o (by decide)
   exact iX lZ.o e JL.o (by decide)
  .rintro(e|e|e|e)
   .omega
   .omega
   .exact iX G2.o e Dj.o (by decide)
   exact iX lZ.o e Dj.o (by decide)
  rintro m Ln Uq (rfl|rfl|M|M) zI
  .exact absurd (cQ zI sM.o) (by decide)
  .exact absurd (cQ zI tB.o) (by decide)
  .exact iX G2.o M zI (by decide)
  exact iX lZ.o M zI (by decide))
 clear VY;have hcells:∀m,S m->∃k t C,ky.heap[m]?=some (.cells k t C):=λm M=>by obtain⟨k,t,C,h1,_⟩:=Fa.o m M;exact⟨k,t,C,h1⟩
 refine wpIn_rangeFunc_ownG qf h1 (gf:=283) (lb:= #[Z w2.heap.size,Z (w2.heap.size+1)]) rfl trivial amh
  (amc Fence.wide 3 trivial rfl (by omega) w2.heap.size (w2.heap.size+1) aQ X.length cp (by omega) pc eM ap vy S iQ.o.1 iQ.o.2.1 ky (by simp[World.cell?,sM.o]) (by simp[World.cell?,tB.o])) (λh m=>h.trans m) ?Uj (ca _ _) (λ_=>rfl)
  (λ(pre:List (Di X.length)) W=>Ff d Q.heap.size S ky dQ dL L X (pre.map λx=>x.1) W) (λk (pre:List (Di X.length)) W=>k=.exit 0/\∃(HA:List (Di X.length)) (x:Di X.length),pre=HA++[x]/\HA.length=3/\Ff d Q.heap.size S ky dQ dL L X (HA.map λx=>x.1) W)
  (by intro s E B row aj aq aP;exact Ff.grow aj hcells (by omega) aq aP)
  (λk s E B row aj aq aP=>by obtain⟨h1,HA,x,h2,ax,a8⟩:=aj;exact⟨h1,HA,x,h2,ax,a8.grow hcells (by omega) aq aP⟩)
  ?h0 (λx=>{tmps:= #[Z bd,aa gk c gJ,undef,undef,.slice none 0 0,Z d.heap.size,Z Q.heap.size,JS aQ X.length (8*x.1),undef,Z bd,Z bd,.pointer (some (K bd 3)),Z q.ah,aa gk c gJ,.slice dQ L.length dL,Z bd,aa gk c gJ,.slice ap X.length cp,.func (.func 283) #[] #[Z w2.heap.size,Z (w2.heap.size+1)],JS aQ X.length (8*x.1),undef,undef,undef,undef,undef,undef,undef,undef,undef,undef,undef,undef,undef,undef,undef,undef,undef,undef,undef,undef,undef,undef,undef,undef,undef,undef,undef,undef,undef],defers:=[]}) ?assign ?body ?done ?stop
 case Uj=>
  intro W l o o' hl al hc hw m M;refine World.putObj_heap_other λe=> ?_
  obtain⟨_,_,_,_,aL⟩:=Fa.o m M;omega
 case h0=>
  refine⟨⟨_,[],JL.o,hg _ _ _ _,trivial⟩,⟨dQ,?_,Dj.o⟩,λ_ _=>rfl,LK.o,by simp⟩;cases Dk:dQ with
  |none=>exact .inl ⟨rfl,rfl⟩
  |some p=>
   obtain⟨g,VZ⟩:∃g,p=(H g):=by
    rcases lZ.o.2 with⟨Y,_⟩|⟨g,cap,cur,Y,_⟩
    .rw[Dk]at Y;cases Y
    rw[Dk]at Y;simp only[oO,po]at Y;exact⟨g,Y.1⟩
   subst VZ;exact .inr ⟨_,0,rfl,rfl,λ_=>by rfl⟩
 case assign=>
  intro l x W F cy
  gi_wp2
  exact cy
 case body=>
  intro l pre x W c6 aL;obtain⟨v,aK,aO,fl,zP⟩:=c6.row;obtain⟨zO,pb,JU⟩:=c6.left;have ll:=ag (ack L X (pre.map λx=>x.1) x.1);have act:=ag (amd L X (pre.map λx=>x.1));have JV:=ag (QQ L X (pre.map λx=>x.1));obtain⟨r,ao⟩:∃r,r=(m7 L X (pre.map λx=>x.1)).1:=⟨_,rfl⟩;obtain⟨U,mU⟩:∃U,U=(m7 L X (pre.map λx=>x.1)).2:=⟨_,rfl⟩;rw[<-ao]at JU pb ll act;rw[<-mU]at fl zP ll JV;rw[c2]at JV;clear ao mU;obtain⟨a5,j2,rfl,QT,hc5,hf5⟩:=bz fl;clear hf5;unfold maxLen at hc5;have BF:W.cell? (V d 0)=some (.slice a5 U.length j2):=by simp[World.cell?,aO]
  have du:=ag (aN c6 (aN aO fl));clear aO fl;have HBT:=ag zP;clear zP;by_cases ax:pre.length=3
  .have bu:U.length=3:=by have :=JV.o;omega
   rw[bu]at BF
   gi_wp2
   exact⟨KeepsFrom.refl _ _,rfl,pre,x,rfl,ax,du.o.1⟩
  have bu:¬U.length=3:=by have :=JV.o;omega
  have jC:¬(U.length:Int)=3:=by omega
  have auE:pre.length<3:=by have :=du.o.1.VT;rw[c2]at this;omega
  have lh:0<X.length:=by have :=x.2;unfold chunks at this;omega
  have Dl:=ag (show Hx W aQ (8*x.1*2) (partOf X x.1) from λw hi=>by obtain⟨Y,aD⟩:=ame G2.o (vy lh) x.1 w hi;have hSg:=iQ.o.2.2.1 aQ (by rw[vy lh];rfl);exact⟨du.o.1.pM.cell hSg Y,du.o.1.pM.cell hSg aD⟩)
  obtain⟨m8,JW⟩:∃m8,m8=8*x.1:=⟨_,rfl⟩;have QU:=ag (amf X x.1);obtain⟨part,MG⟩:∃part,part=partOf X x.1:=⟨_,rfl⟩;rw[<-MG]at Dl QU ll;rw[<-JW]at Dl QU⊢;have auF:m8<=240:=by have :=x.2;unfold chunks at this;omega
  have a1:=ag (aN MG JW);clear MG JW;have auG:part.length<=8:=by rw[QU.o];unfold Dh;omega
  have Me:=act.o;unfold JS;rw[<-QU.o];rcases pb with⟨Dk,rfl⟩|⟨p,o,Dk,rfl,al⟩
  .have vB:L=[]/\dL=0:=by
    rcases lZ.o.2 with⟨Y,_⟩|⟨g,cap,cur,Y,_⟩
    .simp only[oO]at Y;exact⟨D7 Y.2.1,Y.2.2⟩
    rw[Dk]at Y;cases Y
   obtain⟨rfl,rfl⟩:=vB;subst Dk;obtain rfl:r=0:=af9.1 Me;have qa:yz (([]:List ay).drop 0) part=0:=by rfl
   rw[qa]at ll;have HB:W.cell? (V Q 0)=some (.slice none 0 0):=by simp[World.cell?,JU]
   have eY:((U.length:Int)==3)=false:=by simpa using jC
   gi_upto_region 6 with fail
   gi_step
   gi_step
   gi_step
   gi_step
   gi_step
   gi_step
   gi_step
   gi_step
   gi_cut [8] from 20 (λw wc=>w=A 0/\wc=W)
   case first =>
    gi_wp2
    gi_loopw [8] (λw wr=>w=A 0/\wr=W) (λ_ _=>0)
    case atStart=>simp
    case round=>
     obtain⟨rfl,rfl⟩:=hrel
     gi_wp2_with (first
      |(refine⟨trivial,?_⟩)
      |fail)
     gi_meet
     simp
   case rest=>
    obtain⟨rfl,rfl⟩:=hcut;have pd:=ag du.o.2.2;have HC:=ag du.o.2.1;have HD:=ag (show wc.heap[Q.heap.size]?=some (.cells #[.slice none 0 0] 202) by simpa using JU);have amj:U.length<=3:=by have :=JV.o;omega
    have sk:=aU HC.o;have V0:=aU HD.o;have bI:Q.heap.size≠d.heap.size:=by have :=jf.o.size;simp only[Y8]at this;omega
    have amk:wc.heap.size≠d.heap.size:=by omega
    have UQ:wc.heap.size≠Q.heap.size:=by omega
    have b9:=ag (show J wc (wc.alloc (.cells #[.iface 382 (.slice none 0 0)] 147)).drew from(aV wc _).drew);obtain⟨v',w6,fz,HE,HF,_⟩:=SE (P:=prog) (wc.alloc (.cells #[.iface 382 (.slice none 0 0)] 147)).drew d.heap.size 165 165 147 i0 .nilIface 1 16 underlying165 hi hz0 acr acs rfl (by decide) (.slice a5 U.length j2) U.length aK (dI pd.o b9.o) (V wc 0) 1 1 [.iface 382 (.slice none 0 0)] rfl (by
     intro j u aB
     match j with
     |0=>simp at aB;subst aB;simp[go_sem]
     |j+1=>simp at aB) (by simp[Value.oneCell']) (by unfold maxLen;omega) (by omega) (cd (Nat.le_of_lt sk) b9.o.size)
    obtain⟨g',p6,rfl⟩:=ownsRow_succ HE;have HG:=ag (aR.up (S:=λm=>(Value.slice a5 U.length j2).ownBlock=some m) HF (λm M=>M));have yA:=ag (show(Value.slice a5 U.length j2).ownBlock≠some d.heap.size from λe=>by exact iX pd.o e HC.o (by decide))
    have LL:=ag (show(Value.slice a5 U.length j2).ownBlock≠some Q.heap.size from λe=>by exact iX pd.o e HD.o (by decide))
    have Dm:=ag ((HG.o.other d.heap.size (c0 sk b9.o.size) yA.o).trans (bB HC.o b9.o));have qe:=ag ((HG.o.other Q.heap.size (c0 V0 b9.o.size) LL.o).trans (bB HD.o b9.o));have f5:=cV Dm.o 0;have f6:=cV qe.o 0;have g5:w6.cell? (V d 0)=some (.slice a5 U.length j2):=by simp[World.cell?,Dm.o]
    have g6:w6.cell? (V Q 0)=some (.slice none 0 0):=by simp[World.cell?,qe.o]
    have ug:=ag (aN HE HF);clear HE HF;have V1:=acq fz;clear fz
    gi_step
    gi_step
    gi_cut [] from 38 (λw7=>w7=w6.setCell (V d 0) (aa g' (U.length+1) p6))
    case first =>
     gi_region_with (fail)
     all_goals gi_wp2
     all_goals gi_meet
     all_goals rfl
    case rest=>
     subst hcut;have HH:=ag (show aR (λm=>m=d.heap.size) w6 (w6.setCell (V d 0) (aa g' (U.length+1) p6)) from aR.it _ rfl);have wT:=ag (show(w6.setCell (V d 0) (aa g' (U.length+1) p6)).heap[d.heap.size]?=some (.cells #[aa g' (U.length+1) p6] 165) from setRow Dm.o);have sz:=ag ((HH.o.other Q.heap.size (aU qe.o) bI).trans qe.o);have yB:=ag (kd ug.o.1 (g:=d.heap.size) (o:=0) (λe=>by exact iX ug.o.1 e Dm.o (by decide)) (aa g' (U.length+1) p6))
     obtain⟨w7,Dn⟩:∃w7,w6.setCell (V d 0) (aa g' (U.length+1) p6)=w7:=⟨_,rfl⟩;rw[Dn]at HH wT sz yB⊢;have V2:=ag (show KeepsOthers w6 w7 by rw[<-Dn];exact KeepsOthers.setCell _ _ _);have ux:=ag (show ∀n,n<=d.heap.size->Below n w6 w7 by rw[<-Dn];exact λn hn=>(ca n w6).setCell (p:=(V d 0)) hn _);clear Dn g5 g6 f5 f6 V1 BF HB;have g6:w7.cell? (V Q 0)=some (.slice none 0 0):=by simp[World.cell?,sz.o]
     have f6:=cV sz.o 0;have uy:KeepsFrom (w2.heap.size+2) wc (w7.setCell (V Q 0) (.slice none 0 0))/\vK S wc (w7.setCell (V Q 0) (.slice none 0 0))/\Ff d Q.heap.size S ky none 0 [] X ((pre++[x]).map λx=>x.1) (w7.setCell (V Q 0) (.slice none 0 0)):=by
      have MH:aR (λm=>m=Q.heap.size) w7 (w7.setCell (V Q 0) (.slice none 0 0)):=aR.it _ rfl;have G8:=VW b9.o;have Ev:KeepsOthers _ w6:=KeepsOthers.of_grownBy ug.o.2 (λj o aB al=>by obtain⟨cur,hc⟩:=b0 (dI pd.o b9.o) aB;rw[hc]at al;cases al;rfl)
      have tg:vK S wc (w7.setCell (V Q 0) (.slice none 0 0)):=λm M=>by
       obtain⟨Ln,JX,Uq,JY,_⟩:=Fa.o m M;have BG:=(du.o.1.pM m M).trans JY;have aD:=b9.o.block m (aU BG);have cY:=HG.o.other m (aU (aD.trans BG)) (λe=>by obtain⟨cur,hc⟩:=b0 (dI pd.o b9.o) e;rw[aD,du.o.1.pM m M]at hc;exact iQ.o.2.2.2.2.2.2 m _ _ M hc)
       have gu:=HH.o.other m (aU (cY.trans (aD.trans BG))) (λe=>iQ.o.2.2.2.2.1 (e▸M));have n3:=MH.other m (aU (gu.trans (cY.trans (aD.trans BG)))) (λe=>iQ.o.2.2.2.2.2.1 (e▸M));exact n3.trans (gu.trans (cY.trans aD))
      refine⟨((G8.trans Ev).trans (V2.o.trans (KeepsOthers.setCell _ _ _))).from _,tg,?_⟩;rw[ga];have MI:=ll.o;refine⟨?_,?_,du.o.1.pM.trans tg,?_,?_⟩
      .rw[show[x].map (λx=>x.1)=[x.1] from rfl,MI];refine⟨_,_,(MH.other d.heap.size (aU wT.o) (eE bI)).trans wT.o,?_,eW.snoc (R:=Hy none) (a:=(0,0)) (b:=.iface 382 (.slice none 0 0)) ?_ HBT.o⟩
       .rw[dh];exact kd yB.o (λe=>by exact iX yB.o e sz.o (by decide)) _
       exact⟨none,0,rfl,bW _,b6 _,λh0=>absurd h0 (by decide)⟩
      .rw[show[x].map (λx=>x.1)=[x.1] from rfl,MI];exact⟨none,.inl ⟨rfl,rfl⟩,setRow sz.o⟩
      .have aA:=du.o.1.JT;have bo:=bp aA b9.o;have bu:=bo.grown ug.o.2 bo.size (λm M=>(cX du.o.2.2 m M).1);have hY:=bu.trans (ux.o _ (bW _));exact hY.trans ((ca _ w7).setCell (p:=(V Q 0)) (by omega) _)
      simp only[dh,c2,iq,sa];omega
     have QV:=ag uy;clear uy
     gi_wp2
     rw[ox];exact QV.o
  obtain⟨g,VZ⟩:∃g,p=(H g):=by
   rcases lZ.o.2 with⟨Y,_⟩|⟨g,cap,cur,Y,_⟩
   .rw[Dk]at Y;cases Y
   rw[Dk]at Y;simp only[oO,po]at Y;exact⟨g,Y.1⟩
  subst VZ;subst Dk;dsimp only at JU al;have dV:=ag al;clear al;have HB:W.cell? (V Q 0)=some (.slice (some (K g o)) (L.length-r) (dL-r)):=by simp[World.cell?,JU]
  have aml:=zJ;unfold maxLen at aml;have Lt:=iQ.o.2.2.2.1 g rfl;have CN:=ag (show ∀j (aB:r+j<L.length),W.cell? (K g (o+j*4))=some (A L[r+j].op.id.1)/\W.cell? (K g (o+j*4+1))=some (A L[r+j].op.id.2)/\W.cell? (K g (o+j*4+2))=some (A L[r+j].op.cb)/\W.cell? (K g (o+j*4+3))=some (.iface L[r+j].t L[r+j].v) from λj aB=>by obtain⟨cR,Y,aD,cY⟩:=eV.cells lZ.o (r+j) aB;have al:=dV.o (by omega);rw[show(r+j)*4=o+j*4 by omega]at cR Y aD cY;exact⟨du.o.1.pM.cell Lt cR,du.o.1.pM.cell Lt Y,du.o.1.pM.cell Lt aD,du.o.1.pM.cell Lt cY⟩)
  obtain⟨N,hcut⟩:∃N,N=yz (L.drop r) part:=⟨_,rfl⟩;rw[<-hcut]at ll;have amm:r+N<=L.length:=by have :=VS (L.drop r) part;rw[ly]at this;omega
  have Fg:=ag (show ∀j (aB:j<N),fe (L[r+j]'(c0 (Nat.add_lt_add_left aB r) amm))∈part from λj aB=>by rw[hcut]at aB;have :=acl (λo=>decide (fe o∈part)) (L.drop r) j aB;simp only[OI]at this;exact S6 this)
  have amn:=ag (show ∀(aB:r+N<L.length),fe L[r+N]∉part from λaB=>by have :=acm (λo=>decide (fe o∈part)) (L.drop r) (by rw[ly];unfold yz at hcut;omega);simp only[OI]at this;have e:((L.drop r).takeWhile λo=>decide (fe o∈part)).length=N:=hcut.symm;simp only[e]at this;exact of_decide_eq_false this)
  clear hcut;have eY:((U.length:Int)==3)=false:=by simpa using jC
  gi_upto_region 6 with fail
  gi_step
  gi_step
  gi_step
  gi_step
  gi_step
  gi_step
  gi_step
  gi_step
  gi_cut [8] from 20 (λw wc=>w=A (N:Nat)/\J W wc)
  case first =>
   gi_wp2
   gi_loopw [8] (λw wr=>∃j,j<=N/\w=A (j:Nat)/\J W wr) (λw _=>N-(intOf w).toNat)
   case atStart=>exact⟨0,b6 _,rfl,ca _ _⟩
   case round=>
    obtain⟨j,hjc,rfl,bl⟩:=hrel;replace HB:=ak bl HB;have Ej:(0:Int)<=(j:Int):=kG _;by_cases iV:r+j<L.length
    .obtain⟨cR,Y,aD,cY⟩:=CN.o j iV;replace cR:=ak bl cR;replace Y:=ak bl Y;replace aD:=ak bl aD;replace cY:=ak bl cY;have IX:(j:Int)<((L.length-r:Nat):Int):=by omega
     have bf:=ag bl;clear bl;have tC:=ag (show decide ((L[r+j].op.id.2,L[r+j].op.cb)∈part)=decide (j<N) by
      by_cases ra:j<N
      .rw[nJ ra];exact nJ (Fg.o j ra)
      have tx:j=N:=by omega
      rw[p2 ra];subst tx;exact p2 (amn.o iV))
     obtain⟨y,hoe⟩:∃y,y=L[r+j]:=⟨_,rfl⟩;rw[<-hoe]at cR Y aD cY tC;clear hoe;have fs:=ag (λdd (ah:J W dd)=>al9 (Dl.o.ak ah) y.op.id.2 y.op.cb (by omega) (by omega) (bW _) (by omega));rw[tC.o]at fs;by_cases ra:j<N
     .rw[nJ ra]at fs
      gi_wp2_with (first
       |(refine⟨trivial,?_⟩;gi_at_call 280;refine(CallsIn.inRound l (F9.2 (VE _ _ _ _ _ _))).mono ?_;rintro e w4 ⟨rfl,hY⟩;have MJ:=ag (bp bf.o hY);clear hY)
       |(refine⟨trivial,?_⟩;gi_at_call 279;refine(CallsIn.inRound l (F9.2 (fs.o _ MJ.o))).mono ?_;rintro e w5 ⟨rfl,nU⟩;have MK:=ag (bp MJ.o nU);clear nU)
       |fail)
      go_roundw
      case rel=>exact⟨j+1,by omega,by go_num,MK.o⟩
      case measure=>simp[intOf];omega
     rw[p2 ra]at fs;have V3:=ag (show j=N by omega);clear ra
     gi_wp2_with (first
      |(refine⟨trivial,?_⟩;gi_at_call 280;refine(CallsIn.inRound l (F9.2 (VE _ _ _ _ _ _))).mono ?_;rintro e w4 ⟨rfl,hY⟩;have MJ:=ag (bp bf.o hY);clear hY)
      |(refine⟨trivial,?_⟩;gi_at_call 279;refine(CallsIn.inRound l (F9.2 (fs.o _ MJ.o))).mono ?_;rintro e w5 ⟨rfl,nU⟩;have MK:=ag (bp MJ.o nU);clear nU)
      |fail)
     gi_meet
     case rel=>exact⟨by rw[V3.o],MK.o⟩
    have IX:¬(j:Int)<((L.length-r:Nat):Int):=by omega
    have V3:=ag (show j=N by omega);have MK:=ag bl;clear bl
    gi_wp2_with (first
     |(refine⟨trivial,?_⟩)
     |fail)
    gi_meet
    case rel=>exact⟨by rw[V3.o],MK.o⟩
  case rest=>
   obtain⟨rfl,bl⟩:=hcut;have pd:=ag (dI du.o.2.2 bl);have HC:=ag (bB du.o.2.1 bl);have HD:=ag (bB JU bl);have amj:U.length<=3:=by have :=JV.o;omega
   replace BF:=ak bl BF;replace HB:=ak bl HB;have sk:=aU HC.o;have V0:=aU HD.o;have bI:Q.heap.size≠d.heap.size:=by have :=jf.o.size;simp only[Y8]at this;omega
   have amk:wc.heap.size≠d.heap.size:=by omega
   have UQ:wc.heap.size≠Q.heap.size:=by omega
   have b9:=ag (show J wc (wc.alloc (.cells #[.iface 382 (.slice (some (K g o)) N (dL-r))] 147)).drew from(aV wc _).drew);obtain⟨v',w6,fz,HE,HF,_⟩:=SE (P:=prog) (wc.alloc (.cells #[.iface 382 (.slice (some (K g o)) N (dL-r))] 147)).drew d.heap.size 165 165 147 i0 .nilIface 1 16 underlying165 hi hz0 acr acs rfl (by decide) (.slice a5 U.length j2) U.length aK (dI pd.o b9.o) (V wc 0) 1 1 [.iface 382 (.slice (some (K g o)) N (dL-r))] rfl (by
    intro j u aB
    match j with
    |0=>simp at aB;subst aB;simp[go_sem]
    |j+1=>simp at aB) (by simp[Value.oneCell']) (by unfold maxLen;omega) (by omega) (cd (Nat.le_of_lt sk) b9.o.size)
   obtain⟨g',p6,rfl⟩:=ownsRow_succ HE;have HG:=ag (aR.up (S:=λm=>(Value.slice a5 U.length j2).ownBlock=some m) HF (λm M=>M));have yA:=ag (show(Value.slice a5 U.length j2).ownBlock≠some d.heap.size from λe=>by exact iX pd.o e HC.o (by decide))
   have LL:=ag (show(Value.slice a5 U.length j2).ownBlock≠some Q.heap.size from λe=>by exact iX pd.o e HD.o (by decide))
   have Dm:=ag ((HG.o.other d.heap.size (c0 sk b9.o.size) yA.o).trans (bB HC.o b9.o));have qe:=ag ((HG.o.other Q.heap.size (c0 V0 b9.o.size) LL.o).trans (bB HD.o b9.o));have f5:=cV Dm.o 0;have f6:=cV qe.o 0;have g5:w6.cell? (V d 0)=some (.slice a5 U.length j2):=by simp[World.cell?,Dm.o]
   have g6:w6.cell? (V Q 0)=some (.slice (some (K g o)) (L.length-r) (dL-r)):=by simp[World.cell?,qe.o]
   have ug:=ag (aN HE HF);have ng:=ag bl;clear HE HF bl;have Fh:(0:Int)<=(N:Int):=kG _;have HI:N<=L.length-r:=by omega
   have Gt:L.length-r<=dL-r:=by omega
   have V1:=acq fz;clear fz
   gi_step
   gi_step
   gi_cut [] from 38 (λw7=>w7=w6.setCell (V d 0) (aa g' (U.length+1) p6))
   case first =>
    gi_region_with (fail)
    all_goals gi_wp2
    all_goals gi_meet
    all_goals rfl
   case rest=>
    subst hcut;have HH:=ag (show aR (λm=>m=d.heap.size) w6 (w6.setCell (V d 0) (aa g' (U.length+1) p6)) from aR.it _ rfl);have wT:=ag (show(w6.setCell (V d 0) (aa g' (U.length+1) p6)).heap[d.heap.size]?=some (.cells #[aa g' (U.length+1) p6] 165) from setRow Dm.o);have sz:=ag ((HH.o.other Q.heap.size (aU qe.o) bI).trans qe.o);have yB:=ag (kd ug.o.1 (g:=d.heap.size) (o:=0) (λe=>by exact iX ug.o.1 e Dm.o (by decide)) (aa g' (U.length+1) p6))
    obtain⟨w7,Dn⟩:∃w7,w6.setCell (V d 0) (aa g' (U.length+1) p6)=w7:=⟨_,rfl⟩;rw[Dn]at HH wT sz yB⊢;have V2:=ag (show KeepsOthers w6 w7 by rw[<-Dn];exact KeepsOthers.setCell _ _ _);have ux:=ag (show ∀n,n<=d.heap.size->Below n w6 w7 by rw[<-Dn];exact λn hn=>(ca n w6).setCell (p:=(V d 0)) hn _);clear Dn g5 g6 f5 f6 V1 BF HB;have g6:w7.cell? (V Q 0)=some (.slice (some (K g o)) (L.length-r) (dL-r)):=by simp[World.cell?,sz.o]
    have f6:=cV sz.o 0;have uy:∀wM,acp (some (H g)) dL (r+N) wM->KeepsFrom (w2.heap.size+2) W (w7.setCell (V Q 0) (.slice wM (L.length-r-N) (dL-r-N)))/\vK S W (w7.setCell (V Q 0) (.slice wM (L.length-r-N) (dL-r-N)))/\Ff d Q.heap.size S ky (some (H g)) dL L X ((pre++[x]).map λx=>x.1) (w7.setCell (V Q 0) (.slice wM (L.length-r-N) (dL-r-N))):=by
     intro wM hL8;have MH:aR (λm=>m=Q.heap.size) w7 (w7.setCell (V Q 0) (.slice wM (L.length-r-N) (dL-r-N))):=aR.it _ rfl;have Md:=VW ng.o;have G8:=VW b9.o;have Ev:KeepsOthers _ w6:=KeepsOthers.of_grownBy ug.o.2 (λj o aB al=>by obtain⟨cur,hc⟩:=b0 (dI pd.o b9.o) aB;rw[hc]at al;cases al;rfl)
     have tg:vK S W (w7.setCell (V Q 0) (.slice wM (L.length-r-N) (dL-r-N))):=λm M=>by
      obtain⟨Ln,JX,Uq,JY,_⟩:=Fa.o m M;have BG:=(du.o.1.pM m M).trans JY;have Y:=ng.o.block m (aU BG);have aD:=b9.o.block m (aU (Y.trans BG));have cY:=HG.o.other m (aU (aD.trans (Y.trans BG))) (λe=>by obtain⟨cur,hc⟩:=b0 (dI pd.o b9.o) e;rw[aD,Y,du.o.1.pM m M]at hc;exact iQ.o.2.2.2.2.2.2 m _ _ M hc)
      have gu:=HH.o.other m (aU (cY.trans (aD.trans (Y.trans BG)))) (λe=>iQ.o.2.2.2.2.1 (e▸M));have n3:=MH.other m (aU (gu.trans (cY.trans (aD.trans (Y.trans BG))))) (λe=>iQ.o.2.2.2.2.2.1 (e▸M));exact n3.trans (gu.trans (cY.trans (aD.trans Y)))
     refine⟨(((Md.trans G8).trans Ev).trans (V2.o.trans (KeepsOthers.setCell _ _ _))).from _,tg,?_⟩;rw[ga];have MI:=ll.o;have Fi:=du.o.1.JT.size;refine⟨?_,?_,du.o.1.pM.trans tg,?_,?_⟩
     .rw[show[x].map (λx=>x.1)=[x.1] from rfl,MI];refine⟨_,_,(MH.other d.heap.size (aU wT.o) (eE bI)).trans wT.o,?_,eW.snoc (R:=Hy (some (H g))) (a:=(r,N)) (b:=.iface 382 (.slice (some (K g o)) N (dL-r))) ?_ HBT.o⟩
      .rw[dh];exact kd yB.o (λe=>by exact iX yB.o e sz.o (by decide)) _
      refine⟨some (K g o),dL-r,rfl,by show N<=dL-r;omega,by omega,λh0=>⟨(H g),rfl,?_⟩⟩;have h0':0<N:=h0;rw[dV.o (by omega)]
     .rw[show[x].map (λx=>x.1)=[x.1] from rfl,MI];refine⟨wM,hL8,?_⟩;rw[show L.length-(r+N)=L.length-r-N by omega,show dL-(r+N)=dL-r-N by omega];exact setRow sz.o
     .have aA:=du.o.1.JT.trans (ng.o.mono Fi);have bo:=bp aA b9.o;have bu:=bo.grown ug.o.2 bo.size (λm M=>(cX du.o.2.2 m M).1);have hY:=bu.trans (ux.o _ (bW _));exact hY.trans ((ca _ w7).setCell (p:=(V Q 0)) (by omega) _)
     simp only[dh,c2,iq,sa];omega
    have QV:=ag uy;clear uy
    gi_wp2
    .have cR:dL-r-N=0:=by omega
     have aH:=QV.o (some (K g o)) (.inr ⟨_,o,rfl,rfl,λh=>by omega⟩);rw[cR]at aH;exact aH
    exact QV.o (some (K g (o+N*4))) (.inr ⟨_,_,rfl,rfl,λh=>by have :=dV.o (by omega);omega⟩)
 case done=>
  rintro D xs W qX bS c6 cy;obtain⟨v,aK,aO,fl,zP⟩:=c6.row;have hc:W.cell? (V d 0)=some v:=by simp[World.cell?,aO]
  have er:xs.map (λx=>x.1)=List.range (min (chunks X.length) 3):=by have h1:=c6.VT;have h2:=bS;rw[h2]at h1⊢;rw[ww]at h1;rw[KX h1]
  rw[er]at fl zP;have a1:=ag (aN c6 (aN fl zP));clear fl zP bS;have V4:d.heap.size<=D:=by omega
  gi_wp2
  refine⟨by simp,.inl ⟨_,_,rfl,run_takeDeferred cy,?_⟩⟩;refine⟨_,af0 rfl _ _ _,v,aK,L,dQ,dL,_,rfl,?_,cr.o.2.1,cr.o.2.2.1,rfl,?_,?_,a1.o.1.JT.trans (Ui V4 cy)⟩
  .exact ownsRow_putObj (cu lZ.o λg aq=>a1.o.1.pM g (iQ.o.2.2.2.1 g aq)) _ cy rfl
  .rw[<-JN.o];exact ownsRow_putObj a1.o.2.1 _ cy rfl
  rw[<-JN.o];exact a1.o.2.2
 case stop=>
  rintro D k pre W qX ⟨m,M,pK⟩ ⟨rfl,HA,x,rfl,ax,c6⟩ cy;obtain⟨v,aK,aO,fl,zP⟩:=c6.row;have hc:W.cell? (V d 0)=some v:=by simp[World.cell?,aO]
  have er:HA.map (λx=>x.1)=List.range (min (chunks X.length) 3):=by
   have a8:m=4:=by have :=kq List.length pK;simp only[c2,dh,iq,sa,ww]at this;omega
   subst a8;rw[Nat.min_eq_right (by omega)];rw[ga]at pK;have :=kq (List.take 3) pK;rw[Ay (by rw[c2,ax];exact bW _),kp (by rw[c2,ax];exact bW _)]at this;exact this
  rw[er]at fl zP;have a1:=ag (aN c6 (aN fl zP));clear fl zP pK;have V4:d.heap.size<=D:=by omega
  gi_wp2
  refine⟨by simp,.inl ⟨_,_,rfl,run_takeDeferred cy,?_⟩⟩;refine⟨_,af0 rfl _ _ _,v,aK,L,dQ,dL,_,rfl,?_,cr.o.2.1,cr.o.2.2.1,rfl,?_,?_,a1.o.1.JT.trans (Ui V4 cy)⟩
  .exact ownsRow_putObj (cu lZ.o λg aq=>a1.o.1.pM g (iQ.o.2.2.2.1 g aq)) _ cy rfl
  .rw[<-JN.o];exact ownsRow_putObj a1.o.2.1 _ cy rfl
  rw[<-JN.o];exact a1.o.2.2
theorem amo {gt:Int} {o:Nat->Int} {u:List (PId×ay)} {q:gm} (g:dU a c h i b j k gt o f u q) {gk:Nat} {m:Nat->Int} (w:q9 a gk e b m) (y:∀d,d<b->0<=m d/\o d<=60) (z:∀d,d<b->m d<=60) (B:∀x∈f,0<=x.op.id.2/\x.op.id.2<b) (C:(f.map fe).Nodup):
  O 275 #[Z c,aa gk b e] a λl p=>∃v s n t D r,l=ad v/\eV a.heap.size p (.slice t n.length D) n/\n.Perm (f.filter (uz m))/\Bz n/\r=(m7 n (l4 m o b) (List.range (min (chunks (l4 m o b).length) 3))).2/\p.ownsRow a.heap.size 147 1 v r.length s/\eW (Hy t) r s/\J a p:=
 F9.1 (ami g w y z B C)
end
section
attribute [local go_sem ↓] Go.wp_at_zero Go.wp_at_succ
variable {a:List ay}{b c i j:Nat}{d:Nat->Int}{e h:Nat->Prop}{f:World}
abbrev iv:=List Int⊕List ay
def rowOf (l:List Int) (i:Nat):Int:=l.getD i 0
def tD (w:World) (I:Nat->Prop):iv->Value->Prop
 |.inl l,u=>∃g c,u=.iface 115 (aa g l.length c)/\q9 w g c l.length (rowOf l)/\I g
 |.inr a,u=>∃s,u=.iface 382 s/\opsV w I s a
theorem q9.fW{w g}{w':World}(h:q9 w g b c d)(a:w'.heap[g]?=w.heap[g]?)(e:w.heap.size<=w'.heap.size):q9 w' g b c d:=
 ⟨λi f=>by have :=h.cells i f;simpa[World.cell?,a]using this,h.JP,h.JQ,c0 h.lt e⟩
theorem tD.fW{w w':World}{I f:Nat->Prop}:∀{m:iv} {u:Value},tD w I m u->(∀k,I k->w'.heap[k]?=w.heap[k]?)->w.heap.size<=w'.heap.size->(∀k,I k->f k)->tD w' f m u
 |.inl l,u,⟨g,c,a,b,h⟩,d,i,e=>⟨g,c,a,b.fW (d g h) i,e g h⟩
 |.inr j,u,⟨s,a,b⟩,d,_,e=>⟨s,a,b.fW d e⟩
theorem acu(a:List ay)(c:List PId):∀(e:List Nat) (s:Nat×List (Nat×Nat)),s.1<=a.length->(∀b∈s.2,b.1+b.2<=a.length)->∀b∈(e.foldl (BE a c) s).2,b.1+b.2<=a.length
 |[],s,_,h=>h
 |k::e,s,g,h=>by
  have f:=VS (a.drop s.1) (partOf c k);rw[ly]at f;refine acu a c e (BE a c s k) (by unfold BE;omega) λb d=> ?_
  rcases dZ.1 d with d|d
  .simp_all
  obtain rfl:=fR.1 d;omega
theorem amp{c:List PId}{d:List Nat}{b:Nat×Nat}(h:b∈(m7 a c d).2):b.1+b.2<=a.length:=acu a c d (0,[]) (b6 _) (λ_ e=>by cases e) b h
def ML (a:List ay) (b:Nat×Nat):iv:=.inr ((a.drop b.1).take b.2)
theorem amq{u}{n:Option Addr}(h:eV c f (.slice n a.length b) a)(M:a.length<=300)(r:∀x∈a,rQ f e (.iface x.t x.v) x.op.chg)(s:∀k,(Value.slice n a.length b).ownBlock=some k->e k){d:Nat×Nat}(N:d.1+d.2<=a.length)(w:Hy n d u):tD f e (ML a d) u:=by
 obtain⟨i,j,rfl,P,y,z⟩:=w;have o:((a.drop d.1).take d.2).length=d.2:=by rw[gU,ly];omega
 refine⟨_,rfl,i,j,by rw[o],by omega,y,λq=> ?_,λx B=>r x (tS (mo B))⟩;rw[o]at q;obtain⟨p,rfl,C⟩:=z q;obtain⟨g,rfl⟩:∃g,p=(H g):=by
  rcases h.2 with⟨m,_⟩|⟨g,Q,R,m,_⟩
  .cases m
  simp_all
 refine⟨g,d.1*4,C,⟨λk D=> ?_,s g rfl,by omega⟩⟩;rw[o]at D;have E:d.1+k<a.length:=by omega
 have l:((a.drop d.1).take d.2)[k]'(by omega)=a[d.1+k]:=by simp
 obtain⟨F,m,I,L⟩:=eV.cells h (d.1+k) E;rw[show(d.1+k)*4=d.1*4+k*4 by omega]at F m I L
 simp_all
def amr (B:Nat) (w:World) (v:Value) (a:List ay) (b:Option Addr) (e:Nat) (c:List (Nat×Nat)) (d:List Value):Prop:=eV B w (.slice b a.length e) a/\w.ownsRow B 147 1 v c.length d/\eW (Hy b) c d
def JZ (c:List ay) (a b:Nat->Int) (N:Nat):List (Nat×Nat):=(m7 c (l4 a b N) (List.range (min (chunks (l4 a b N).length) 3))).2
theorem ams {n:Nat} {gt:Int} {u:Nat->Int} {B:List (PId×ay)} {q:gm} (p:dU f i e h b j n gt u a B q) (o:Int) (X:bV o q.fX=some c) {gk C:Nat} (D:q9 f gk C b d) (U:h gk) (Y:∀g,g<b->0<=d g/\u g<=60) (xk:∀g,g<b->d g<=60) (eM:∀x∈a,0<=x.op.id.2/\x.op.id.2<b) (cS:(a.map fe).Nodup):
  O 273 #[aa gk b C,Z i,A o] f λl E=>∃v F t I L,l=ad v/\t.Perm (a.filter (uz d))/\Bz t/\amr f.heap.size E v t I L (JZ t d u b) F/\dU E i e h b j n gt u a B {q with dq:=λm=>if m=c then pL (q.dq c) d b else q.dq m}/\aR (λk=>k=c) f E/\e c:=by
 go_enter func273,ntmps273;go_wp2_with fail
 refine(al6 p o X D U).mono ?_;rintro l w1 ⟨⟨r,rfl⟩,w,s,y⟩;go_wp2_with fail
 refine((λW (bU:dU W i e h b j n gt u a B {q with dq:=λm=>if m=c then pL (q.dq c) d b else q.dq m}) (hk:q9 W gk C b d)=>amo bU hk Y xk eM cS) w1 w (D.fW (s.other gk D.lt ((show ∀k,e k->gk≠k from λk hF l=>p.e0 _ U (l▸hF)) c y)) s.size)).mono ?_;rintro l w2 ⟨v,F,t,I,L,bs,rfl,M,N,P,Q,R,S,z⟩;go_wp2;go_ret
 obtain⟨M,N,P,Q,R,S,z⟩:=aN M (aN N (aN P (aN Q (aN R (aN S z)))));obtain⟨w,s,y⟩:=aN w (aN s y);subst Q;exact⟨v,F,t,I,L,rfl,N,P,⟨ii M s.size,ii R s.size,S⟩,w.ak z,s.trans (aR.cL z),y⟩
theorem amt {gt:Int} {t:List (PId×ay)} {q:gm} (l:dU f c h e b i j gt d a t q) (s:List ay) {v:Value} (u:opsV f e v s) (C:∀x∈s,0<=x.op.id.2/\x.op.id.2<b)
  (D:((jL d t s).map (·.1)).Nodup) (E:∀p∈jL d t s,p.1.2<=60) (F:∀g,g<b->0<=d g/\d g<=1000)
  (I:((kC (jL d t s) d b++a).map λo=>o.op.id).Nodup) (L:a.length+(kC (jL d t s) d b).length<=300) (M:∀x∈kC (jL d t s) d b,0<=x.op.id.2/\x.op.id.2<b) (m:Int):
  O 308 #[v,Z c,A m] f λk w=>k=ad (.slice none 0 0)/\∃y z B,dU w c y e b i j (o7 gt (kC (jL d t s) d b)) (hasAll d (kC (jL d t s) d b)) (kk a (kC (jL d t s) d b)) B z/\yv (jL d t s) (uw (jL d t s) d b) B/\JF q z/\dp h y f w:=by
 have N:=alY l s u C D E F I L M;obtain⟨n,Q,rfl,_⟩:=u;go_enter func308,ntmps308;go_wp2_with fail
 refine N.mono ?_;rintro k R ⟨⟨r,rfl⟩,P⟩;go_wp2;go_ret
 exact⟨rfl,P⟩
end
