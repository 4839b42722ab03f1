/- Our own text. -/
import Derived.Sort.CutIn
import Derived.Stop.RegionWithIn
import Derived.Test.YtnkpogjiiohapaaGreatDoorA22
set_option linter.unusedSimpArgs false
set_option linter.unusedVariables false
set_option maxRecDepth 1000000
set_option maxHeartbeats 4000000
namespace Go.Proofs.YtnkpogjiiohapaaGreatDoor
section
open Go.RowKit Tryz
attribute [local go_sem] Oper.semAt_some
variable {a d:World}{b c e j k:Nat}{f:List ar}{h i:Nat->Prop}
def partOf (a:List PId) (k:Nat):List PId:=(a.drop (8*k)).take 8
def uE (a:List ar) (part:List PId):Nat:=(a.takeWhile fun o=>decide (en o∈part)).length
def lk (a:List ar) (b:List PId) (c:List Nat):Nat×List (Nat×Nat):=c.foldl (fun s k=>(s.1+uE (a.drop s.1) (partOf b k),s.2++[(s.1,uE (a.drop s.1) (partOf b k))])) (0,[])
theorem X8(a:List ar)(b:List PId)(c:List Nat)(k:Nat):lk a b (c++[k])=((lk a b c).1+uE (a.drop (lk a b c).1) (partOf b k),(lk a b c).2++[((lk a b c).1,uE (a.drop (lk a b c).1) (partOf b k))]):=by
 unfold lk;simp
theorem Rb {α:Type} (p:α->Bool):∀l:List α,(l.takeWhile p).length<=l.length
 |[]=>apX _
 |x::l=>by
  unfold List.takeWhile;split
  ·have :=Rb p l
   simp_all
  simp
theorem X9 {α:Type} (p:α->Bool):∀(l:List α) (j:Nat) (a:j<(l.takeWhile p).length),p (l[j]'(ap3 a (Rb p l)))=true
 |[],j,a=>by simp at a
 |x::l,j,a=>by
  cases b:p x with
  |false=>simp[List.takeWhile,b]at a
  |true=>
   match j with
   |0=>exact b
   |j+1=>
    have c:j<(l.takeWhile p).length:=by simp_all
    exact X9 p l j c
theorem Ya {α:Type} (p:α->Bool):∀(l:List α) (a:(l.takeWhile p).length<l.length),p l[(l.takeWhile p).length]=false
 |[],a=>by simp at a
 |x::l,a=>by
  cases b:p x with
  |false=>simp[List.takeWhile,b]
  |true=>
   have c:(l.takeWhile p).length<l.length:=by simp_all
   have :=Ya p l c;simpa[List.takeWhile,b]using this
theorem Rc(a:List ar)(part:List PId):uE a part<=a.length:=Rb _ _
def yz (a:List ar) (b:List PId) (s:Nat×List (Nat×Nat)) (k:Nat):Nat×List (Nat×Nat):=(s.1+uE (a.drop s.1) (partOf b k),s.2++[(s.1,uE (a.drop s.1) (partOf b k))])
theorem Yb(a:List ar)(b:List PId):∀(c:List Nat) (s:Nat×List (Nat×Nat)),s.1<=a.length->(c.foldl (yz a b) s).1<=a.length
 |[],s,h=>h
 |k::c,s,h=>by
  refine Yb a b c (yz a b s k) ?_;have :=Rc (a.drop s.1) (partOf b k);rw[aqA]at this;unfold yz;omega
theorem ahs(a:List ar)(b:List PId)(c:List Nat):(lk a b c).1<=a.length:=Yb a b c (0,[]) (apZ _)
theorem Yc(b:List ar)(c:List PId):∀(a:List Nat) (s:Nat×List (Nat×Nat)),(a.foldl (yz b c) s).2.length=s.2.length+a.length
 |[],s=>rfl
 |k::a,s=>by
  have :=Yc b c a (yz b c s k);simp only[arE,aqk];rw[this];unfold yz;simp only[ap4,aqk,aqC];omega
theorem Mr(b:List ar)(c:List PId)(a:List Nat):(lk b c a).2.length=a.length:=by
 show(a.foldl (yz b c) (0,[])).2.length=_;rw[Yc];simp
def eb {α β:Type} (R:α->β->Prop):List α->List β->Prop
 |[],[]=>True
 |a::l,b::m=>R a b/\eb R l m
 |_,_=>False
theorem eb.snoc {α β:Type} {R:α->β->Prop} {a:α} {b:β} (h:R a b):∀{l:List α} {m:List β},eb R l m->eb R (l++[a]) (m++[b])
 |[],[],_=>⟨h,trivial⟩
 |[],_::_,c=>c.elim
 |_::_,[],c=>c.elim
 |_::_,_::_,c=>⟨c.1,eb.snoc h c.2⟩
theorem eb.len {α β:Type} {R:α->β->Prop}:∀{l:List α} {m:List β},eb R l m->l.length=m.length
 |[],[],_=>rfl
 |[],_::_,h=>h.elim
 |_::_,[],h=>h.elim
 |_::_,_::_,h=>by simp[eb.len h.2]
def D6 (d:Option Addr) (b:Nat×Nat) (u:Value):Prop:=∃a c,u=.iface 382 (.slice a b.2 c)/\b.2<=c/\c<=maxLen/\(0<b.2->∃p,d=some p/\a=some (K p.block (b.1*4)))
def Yd (b:Option Addr) (c d:Nat) (a:Option Addr):Prop:=(b=none/\a=none)\/∃p o,b=some p/\a=some (K p.block o)/\(0<c-d->o=d*4)
structure BV (w:World) (Ms:Nat) (S:Nat->Prop) (jh:World) (dr:Option Addr) (dh:Nat) (ls:List ar) (cj:List PId) (ks:List Nat) (W:World):Prop where
 row:∃v aC,W.heap[w.heap.size]?=some (.cells #[v] 165 (0,0))/\W.ownsRow w.heap.size 147 1 v (lk ls cj ks).2.length aC/\eb (D6 dr) (lk ls cj ks).2 aC
 left:∃a,Yd dr dh (lk ls cj ks).1 a/\W.heap[Ms]?=some (.cells #[.slice a (ls.length-(lk ls cj ks).1) (dh-(lk ls cj ks).1)] 202 (0,0))
 n2:tq S jh W
 Gd:J w W
 Re:ks.length<=3
theorem Rf{i:Option Nat}(k:a.grownBy d i)(l:∀r,i=some r->c<=r/\∃o:Obj,a.heap[r]?=some o/\o.isCells=false){g:Array Value}{t:TypeId}{f:Nat×Nat}(h:a.heap[b]?=some (.cells g t f)):d.heap[b]?=some (.cells g t f):=by
 rw[k.block b (aN h) (fun e=>by
  obtain⟨_,o,j,m⟩:=l b e.symm;rw[h]at j;cases j;cases m)]
 exact h
theorem BV.grow{s x y z}{u:World}{w:Option Nat}(i:BV d b h s x c f y z a)(F:∀k,h k->∃j t l,s.heap[k]?=some (.cells j t l))(I:d.heap.size<=e)(n:a.grownBy u w)(p:∀r,w=some r->e<=r/\∃o:Obj,a.heap[r]?=some o/\o.isCells=false):BV d b h s x c f y z u:=by
 obtain⟨v,L,M,B,N⟩:=i.row;obtain⟨P,Q,R⟩:=i.left;refine⟨⟨v,L,Rf n p M,B.kept n ?_,N⟩,⟨P,Q,Rf n p R⟩,fun k C=> ?_,ownFrom_below (β:=Unit) (apX _) I () a u w i.Gd n p,i.Re⟩
 ·cases S:v.ownBlock with
  |none=>exact .inl rfl
  |some g=>
   refine .inr fun m=> ?_
   obtain⟨W,q⟩:=bq B S;obtain⟨_,o,D,U⟩:=p g m.symm;rw[q]at D;cases D;cases U
 obtain⟨j,t,l,q⟩:=F k C;have E:=i.n2 k C;rw[q]at E;rw[q];exact Rf n p E
theorem aht{g}{j:Option Addr}(h:Gb c a (.slice j g.length e) g)(n:j=some (H b))(k:Nat):D5 a b (8*k*2) (partOf g k):=fun i l=>by
 subst n;have m:8*k+i<g.length:=by
  unfold partOf at l;rw[aqg,aqA]at l;omega
 have d:(partOf g k)[i]=g[8*k+i]:=by
  simp[partOf]
 rw[d];refine⟨?_,?_⟩
 ·rw[show 8*k*2+i*2=(8*k+i)*2+0 by omega,ir (f:=lO) (fun _=>rfl) h rfl (8*k+i) m 0 (by omega)];rfl
 rw[show 8*k*2+i*2+1=(8*k+i)*2+1 by omega,ir (f:=lO) (fun _=>rfl) h rfl (8*k+i) m 1 (by omega)];rfl
theorem ahu(a:List PId)(k:Nat):(partOf a k).length=zT a.length (8*k):=by
 unfold partOf zT;simp
def Rg (f:Array TypeId->TypeId->Array Value->Sem Value) (a:Array TypeId) (b:TypeId) (args:Array Value):Sem Go.Next:=do pure (.value (<-f a b args))
theorem ahv(b:Builtin)(d:b=.append)(a:Array TypeId)(c:TypeId)(e:Array Bool)(args:Array Value):builtin b a c e args=Rg Builtin.append_ a c args:=by
 subst d;rfl
attribute [local go_sem↓] ahv
theorem Ye{b:Array TypeId}{c:TypeId}{args:Array Value}{e:Value}(h:(Builtin.append_ b c args).run prog a=.ok e d):(Rg Builtin.append_ b c args).run prog a=.ok (.value e) d:=by
 unfold Rg;rw[aqt,h];rfl
theorem Rh(h:J a d):KeepsOthers a d:=⟨h.size,fun k o b _=>(h.block k (ap8.1 b).1).trans b⟩
theorem ahw(args:Array Value)(w:World):(callFunc 283 args).run prog w=.ok (.enter 283 args) w:=
 enters_of func283 (by rfl) rfl args w
theorem ahx{a1 I sp gt has early q gk hX known}(h:dA d a1 i I c sp k gt has f early q)(N:rl d gk hX c known)(iJ:∀w,w<c->0<=known w/\has w<=60)(hW:∀w,w<c->known w<=60)(fb:∀x∈f,0<=x.op.id.2/\x.op.id.2<c)(cO:(f.map en).Nodup):
  CallsIn Fence.wide 4 prog 275 #[Z a1,.slice (some (H gk)) c hX] d fun e w'=>∃v aC L dr dh X,e=.returned v/\fN d.heap.size w' (.slice dr L.length dh) L/\L.Perm (f.filter (sg known))/\yy L/\X=(lk L (kn known has c) (List.range (min (chunks (kn known has c).length) 3))).2/\w'.ownsRow d.heap.size 147 1 v X.length aC/\eb (D6 dr) X aC/\J d w':=by
 have oo:Fence.wide.round=none:=rfl;have h1:1<=4:=by omega
 have BL:=h.hN;obtain⟨bf,a6,bc,bZ,ee,jC⟩:=h.cells;clear bf a6 bc ee jC;obtain⟨i0,hi,hz0,hz1,hz2⟩:=info_parts (P:=prog) (e:=147) (z:=.nilIface) (size:=1) (bytes:=16) (by kernel_rfl);have gP:=aa (fun W (ab:J d W)=>ahg (h.ae ab).jT (N.ae ab) BL fb cO);have k5:=aa (show(kn known has c).length<=240 by have :=Q5 iJ c (apX _);omega);have da:=aa (fun W (ab:J d W)=>ahm (h.ae ab) (N.ae ab) iJ hW);refine callsIn_of_wp_marks func275 rfl trivial ?_ oo;simp only[ntmps275,arp,aqk,aqC,Nat.reduceAdd,Nat.reduceSub,ar7,ar8,ar9,asa,aqK,aqD];have pJ:a1<d.heap.size:=h.lt _ h.b3;have oV:=World.new_ne d (K a1 3) bZ;have ay:=aa ((apY d.heap.size d).alloc (apX _) (.cells #[.slice none 0 0] 165));have az:=aa h;clear h N iJ hW fb cO
 gi_wp2_with (first
  |(refine⟨trivial,?_⟩;gi_at_call 276;refine(callsIn_wide.2 (gP.o _ ay.o)).mono ?_;rintro e Q ⟨vl,L,rfl,mA,eN,Ri,aq⟩;obtain⟨dr,dh,rfl,tW,vE,uy⟩:=bm mA;have bR:=aa (And.intro mA (And.intro eN (And.intro Ri uy)));have bd:=aa (ay.o.trans (aq.mono ay.o.size));have h6:=aa aq;have bB:=aa (bd.o.alloc bd.o.size (.cells #[.slice dr L.length dh] 202));clear mA eN Ri aq uy)
  |(refine⟨trivial,?_⟩;gi_at_call 278;refine(callsIn_wide.2 (da.o _ bB.o)).mono ?_;rintro e w2 ⟨c1,rfl,iv,aY⟩;obtain⟨ap,cp,rfl,na,fb,Ik⟩:=bm iv;have et:=aa (And.intro iv (And.intro aY Ik));have fx:=aa (bB.o.trans (aY.mono bB.o.size));clear iv aY Ik)
  |(refine⟨trivial,?_⟩;gi_at_call 277;refine(ahq Fence.wide _ trivial rfl _ _ _ _).mono ?_;rintro e w3 ⟨rfl,rfl⟩)
  |fail)
 obtain⟨Y,Mt⟩:∃Y,Y=kn known has c:=⟨_,rfl⟩;have gd:Y.length<=240:=by rw[Mt];exact k5.o
 rw[<-Mt]at et na⊢;have F9:=aa Mt;clear Mt;obtain⟨jh,zF⟩:∃jh,(w2.alloc (.cells #[.slice ap Y.length cp] 378)).alloc (.cells #[A 8] 3)=jh:=⟨_,rfl⟩;have mR:jh.heap.size=w2.heap.size+2:=by rw[<-zF];simp
 have lD:=aa (show J w2 jh by rw[<-zF];exact((apY _ w2).alloc (apX _) _).alloc (by simp) _);have yA:=aa (show jh.heap[w2.heap.size]?=some (.cells #[.slice ap Y.length cp] 378 (0,0)) by rw[<-zF,hK _ _ (by simp)];exact bI w2 _);have BW:=aa (show jh.heap[w2.heap.size+1]?=some (.cells #[A 8] 3 (0,0)) by
  rw[<-zF];have :=bI (w2.alloc (.cells #[.slice ap Y.length cp] 378)) (.cells #[A 8] 3);rwa [show(w2.alloc (.cells #[.slice ap Y.length cp] 378)).heap.size=w2.heap.size+1 by simp]at this)
 rw[zF];clear zF;have Yf:=hz1;have Yg:=hz2;have hz1:=bd.o.size;have hz2:=et.o.2.1.size;simp only[World.size_alloc]at hz2;have zp:=aa (fx.o.trans (lD.o.mono fx.o.size));have lC:=aa (show fN d.heap.size jh (.slice dr L.length dh) L from c7 (c7 (c7 (gT bR.o.1 (by simp)) ((apY Q.heap.size Q).alloc (apX _) (.cells #[.slice dr L.length dh] 202))) et.o.2.1) lD.o);have DC:=aa (show Gb 0 jh (.slice ap Y.length cp) Y from c7 (XT et.o.1) lD.o);have zW:=aa (show jh.heap[Q.heap.size]?=some (.cells #[.slice dr L.length dh] 202 (0,0)) from bj (bj (bI Q _) et.o.2.1) lD.o);have F7:=aa (show jh.heap[d.heap.size]?=some (.cells #[.slice none 0 0] 165 (0,0)) from bj (bj (bj (bj (bI d _) h6.o) ((apY Q.heap.size Q).alloc (apX _) (.cells #[.slice dr L.length dh] 202))) et.o.2.1) lD.o);obtain⟨aI,s9⟩:∃aI,0<Y.length->ap=some (H aI):=by
  by_cases jY:0<Y.length
  ·obtain⟨g,ag⟩:=et.o.2.2 0 jY;exact⟨g,fun _=>ag⟩
  exact⟨0,fun h=>absurd h jY⟩
 obtain⟨S,Rj⟩:∃S:Nat->Prop,S=fun m=>m=w2.heap.size\/m=w2.heap.size+1\/(Value.slice ap Y.length cp).ownBlock=some m\/(Value.slice dr L.length dh).ownBlock=some m:=⟨_,rfl⟩
 have BR:=aa (show ∀m,S m->∃k t C,jh.heap[m]?=some (.cells k t C)/\m<jh.heap.size from fun m N=>by
  rw[Rj]at N;rcases N with rfl|rfl|N|N
  ·exact⟨_,_,_,yA.o,aN yA.o⟩
  ·exact⟨_,_,_,BW.o,aN BW.o⟩
  ·obtain⟨cur,M⟩:=bq DC.o N;exact⟨_,_,_,M,aN M⟩
  obtain⟨cur,M⟩:=bq lC.o N;exact⟨_,_,_,M,aN M⟩)
 have iN:=aa (show S w2.heap.size/\S (w2.heap.size+1)/\(∀m,(Value.slice ap Y.length cp).ownBlock=some m->S m)/\(∀m,(Value.slice dr L.length dh).ownBlock=some m->S m)/\¬S d.heap.size/\¬S Q.heap.size/\∀m k C,S m->jh.heap[m]?≠some (.cells k 147 C) by
  rw[Rj];refine⟨.inl rfl,.inr (.inl rfl),fun m N=>.inr (.inr (.inl N)),fun m N=>.inr (.inr (.inr N)),?_,?_,?_⟩
  ·rintro(e|e|e|e)
   ·omega
   ·omega
   ·obtain⟨cur,M⟩:=bq DC.o e;exact absurd (bK M F7.o) (by decide)
   obtain⟨cur,M⟩:=bq lC.o e;exact absurd (bK M F7.o) (by decide)
  ·rintro(e|e|e|e)
   ·omega
   ·omega
   ·obtain⟨cur,M⟩:=bq DC.o e;exact absurd (bK M zW.o) (by decide)
   obtain⟨cur,M⟩:=bq lC.o e;exact absurd (bK M zW.o) (by decide)
  rintro m Hp LJ (rfl|rfl|N|N) vD
  ·exact absurd (bK vD yA.o) (by decide)
  ·exact absurd (bK vD BW.o) (by decide)
  ·obtain⟨cur,M⟩:=bq DC.o N;exact absurd (bK vD M) (by decide)
  obtain⟨cur,M⟩:=bq lC.o N;exact absurd (bK vD M) (by decide))
 clear Rj;have hcells:∀m,S m->∃k t C,jh.heap[m]?=some (.cells k t C):=fun m N=>by
  obtain⟨k,t,C,h1,_⟩:=BR.o m N;exact⟨k,t,C,h1⟩
 refine wpIn_rangeFunc_ownG oo h1 (gf:=283) (lb:= #[Z w2.heap.size,Z (w2.heap.size+1)]) rfl trivial ahw
  (ahr Fence.wide 3 trivial rfl (by omega) w2.heap.size (w2.heap.size+1) aI Y.length cp (by omega) na fb ap s9 S iN.o.1 iN.o.2.1 jh (by simp[World.cell?,yA.o]) (by simp[World.cell?,BW.o])) (fun h m=>h.trans m) ?O9 (apY _ _) (fun _=>rfl)
  (fun(pre:List (zU Y.length)) W=>BV d Q.heap.size S jh dr dh L Y (pre.map fun x=>x.1) W) (fun k (pre:List (zU Y.length)) W=>k=.exit 0/\∃(D8:List (zU Y.length)) (x:zU Y.length),pre=D8++[x]/\D8.length=3/\BV d Q.heap.size S jh dr dh L Y (D8.map fun x=>x.1) W)
  (by intro s E B row ad ag aH;exact BV.grow ad hcells (by omega) ag aH)
  (fun k s E B row ad ag aH=>by
   obtain⟨h1,D8,x,h2,al,aL⟩:=ad;exact⟨h1,D8,x,h2,al,aL.grow hcells (by omega) ag aH⟩)
  ?h0 (fun x=>{tmps:= #[Z a1,.slice (some (H gk)) c hX,undef,undef,.slice none 0 0,Z d.heap.size,Z Q.heap.size,Gc aI Y.length (8*x.1),undef,Z a1,Z a1,.pointer (some (K a1 3)),Z q.ab,.slice (some (H gk)) c hX,.slice dr L.length dh,Z a1,.slice (some (H gk)) c hX,.slice ap Y.length cp,.func (.func 283) #[] #[Z w2.heap.size,Z (w2.heap.size+1)],Gc aI Y.length (8*x.1),undef,undef,undef,undef,undef,undef,undef,undef,undef,undef,undef,undef,undef,undef,undef,undef,undef,undef,undef,undef,undef,undef,undef,undef,undef,undef,undef,undef,undef],defers:=[]}) ?assign ?body ?done ?stop
 case O9=>
  intro W l o o' hl af M hw m N;refine World.putObj_heap_other fun e=> ?_
  obtain⟨_,_,_,_,aE⟩:=BR.o m N;omega
 case h0=>
  refine⟨⟨_,[],F7.o,aqe _ _ _ _,trivial⟩,⟨dr,?_,zW.o⟩,fun _ _=>rfl,zp.o,by simp⟩;cases zX:dr with
  |none=>exact .inl ⟨rfl,rfl⟩
  |some p=>
   obtain⟨g,Rk⟩:∃g,p=(H g):=by
    rcases lC.o.2 with⟨aj,_⟩|⟨g,cap,cur,aj,_⟩
    ·rw[zX]at aj;cases aj
    rw[zX]at aj;simp only[aqn,aqo]at aj;exact⟨g,aj.1⟩
   subst Rk;exact .inr ⟨_,0,rfl,rfl,fun _=>by show 0=0*4;omega⟩
 case assign=>
  intro l x W F ck
  gi_wp2
  exact ck
 case body=>
  intro l pre x W cD aE;obtain⟨v,aC,aF,fe,w8⟩:=cD.row;obtain⟨zV,nC,Ge⟩:=cD.left;have j5:=aa (X8 L Y (pre.map fun x=>x.1) x.1);have Yh:=aa (ahs L Y (pre.map fun x=>x.1));have Gf:=aa (Mr L Y (pre.map fun x=>x.1));obtain⟨r,ai⟩:∃r,r=(lk L Y (pre.map fun x=>x.1)).1:=⟨_,rfl⟩;obtain⟨X,kh⟩:∃X,X=(lk L Y (pre.map fun x=>x.1)).2:=⟨_,rfl⟩;rw[<-ai]at Ge nC j5 Yh;rw[<-kh]at fe w8 j5 Gf;rw[ap2]at Gf;clear ai kh;obtain⟨a5,jC,rfl,Mu,hc5,hf5⟩:=bm fe;clear hf5;unfold maxLen at hc5;have yB:W.cell? (V d 0)=some (.slice a5 X.length jC):=by simp[World.cell?,aF]
  have cW:=aa (And.intro cD (And.intro aF fe));clear aF fe;have Yi:=aa w8;clear w8;by_cases al:pre.length=3
  ·have bb:X.length=3:=by have :=Gf.o;omega
   rw[bb]at yB
   gi_wp2
   exact⟨KeepsFrom.refl _ _,rfl,pre,x,rfl,al,cW.o.1⟩
  have bb:¬X.length=3:=by have :=Gf.o;omega
  have hY:¬(X.length:Int)=3:=by omega
  have aox:pre.length<3:=by have :=cW.o.1.Re;rw[ap2]at this;omega
  have jY:0<Y.length:=by have :=x.2;unfold chunks at this;omega
  have zY:=aa (show D5 W aI (8*x.1*2) (partOf Y x.1) from fun w hi=>by
   obtain⟨aj,aw⟩:=aht DC.o (s9 jY) x.1 w hi;have Yj:S aI:=iN.o.2.2.1 aI (by rw[s9 jY];rfl);exact⟨cW.o.1.n2.cell Yj aj,cW.o.1.n2.cell Yj aw⟩)
  obtain⟨m8,Gg⟩:∃m8,m8=8*x.1:=⟨_,rfl⟩;have Mv:=aa (ahu Y x.1);obtain⟨part,IG⟩:∃part,part=partOf Y x.1:=⟨_,rfl⟩;rw[<-IG]at zY Mv j5;rw[<-Gg]at zY Mv⊢;have aoy:m8<=240:=by have :=x.2;unfold chunks at this;omega
  have aP:=aa (And.intro IG Gg);clear IG Gg;have aoz:part.length<=8:=by rw[Mv.o];unfold zT;omega
  have Ic:=Yh.o;unfold Gc;rw[<-Mv.o];rcases nC with⟨zX,rfl⟩|⟨p,o,zX,rfl,af⟩
  ·have wL:L=[]/\dh=0:=by
    rcases lC.o.2 with⟨aj,_⟩|⟨g,cap,cur,aj,_⟩
    ·simp only[aqn]at aj;exact⟨arb aj.2.1,aj.2.2⟩
    rw[zX]at aj;cases aj
   obtain⟨rfl,rfl⟩:=wL;subst zX;obtain rfl:r=0:=Nat.le_zero.1 Ic;have qh:uE (([]:List ar).drop 0) part=0:=by simp[uE]
   rw[qh]at j5;have D9:W.cell? (V Q 0)=some (.slice none 0 0):=by simp[World.cell?,Ge]
   have gV:((X.length:Int)==3)=false:=by simpa using hY
   gi_upto_region 6 with fail
   gi_step
   gi_step
   gi_step
   gi_step
   gi_step
   gi_step
   gi_step
   gi_step
   gi_cut [8] from 20 (fun w wc=>w=A 0/\wc=W)
   case first =>
    gi_wp2
    gi_loopw [8] (fun w wr=>w=A 0/\wr=W) (fun _ _=>0)
    case atStart=>exact⟨rfl,rfl⟩
    case round=>
     obtain⟨rfl,rfl⟩:=hrel
     gi_wp2_with (first
      |(refine⟨trivial,?_⟩)
      |fail)
     gi_meet
     case rel=>exact⟨rfl,rfl⟩
   case rest=>
    obtain⟨rfl,rfl⟩:=hcut;have xa:=aa cW.o.2.2;have Ea:=aa cW.o.2.1;have Eb:=aa (show wc.heap[Q.heap.size]?=some (.cells #[.slice none 0 0] 202 (0,0)) by simpa using Ge);have ahy:X.length<=3:=by have :=Gf.o;omega
    have qc:d.heap.size<wc.heap.size:=aN Ea.o;have Rl:Q.heap.size<wc.heap.size:=aN Eb.o;have bp:Q.heap.size≠d.heap.size:=by
     have :=h6.o.size;simp only[World.size_alloc]at this;omega
    have ahz:wc.heap.size≠d.heap.size:=by omega
    have P6:wc.heap.size≠Q.heap.size:=by omega
    have bL:=aa (show J wc (wc.alloc (.cells #[.iface 382 (.slice none 0 0)] 147)).drew from((apY wc.heap.size wc).alloc (apX _) _).drew);obtain⟨v',w6,fl,Ec,Ed,_⟩:=run_append_own (P:=prog) (wc.alloc (.cells #[.iface 382 (.slice none 0 0)] 147)).drew d.heap.size 165 165 147 i0 .nilIface 1 16 underlying165 hi hz0 Yf Yg rfl (by decide) (.slice a5 X.length jC) X.length aC (c7 xa.o bL.o) (V wc 0) 1 1 [.iface 382 (.slice none 0 0)] rfl (by
     intro j u au
     match j with
     |0=>simp at au;subst au;simp[go_sem]
     |j+1=>simp at au) (by simp[Value.oneCell']) (by unfold maxLen;omega) (by omega) (ap0 (Nat.le_of_lt qc) bL.o.size)
    obtain⟨g',oh,rfl⟩:=ownsRow_succ Ec;have Ee:=aa (aO.r2 (S:=fun m=>(Value.slice a5 X.length jC).ownBlock=some m) Ed (fun m N=>N));have vL:=aa (show(Value.slice a5 X.length jC).ownBlock≠some d.heap.size from fun e=>by
     obtain⟨cur,M⟩:=bq xa.o e;exact absurd (bK M Ea.o) (by decide))
    have HP:=aa (show(Value.slice a5 X.length jC).ownBlock≠some Q.heap.size from fun e=>by
     obtain⟨cur,M⟩:=bq xa.o e;exact absurd (bK M Eb.o) (by decide))
    have zZ:=aa ((Ee.o.other d.heap.size (ap3 qc bL.o.size) vL.o).trans (bj Ea.o bL.o));have ov:=aa ((Ee.o.other Q.heap.size (ap3 Rl bL.o.size) HP.o).trans (bj Eb.o bL.o));have f5:=cG zZ.o 0;have f6:=cG ov.o 0;have g5:w6.cell? (V d 0)=some (.slice a5 X.length jC):=by simp[World.cell?,zZ.o]
    have g6:w6.cell? (V Q 0)=some (.slice none 0 0):=by simp[World.cell?,ov.o]
    have rX:=aa (And.intro Ec Ed);clear Ec Ed;have Rm:=Ye fl;clear fl
    gi_step
    gi_step
    gi_cut [] from 38 (fun w7=>w7=w6.setCell (V d 0) (.slice (some (H g')) (X.length+1) oh))
    case first =>
     gi_region_with (fail)
     all_goals gi_wp2
     all_goals gi_meet
     all_goals rfl
    case rest=>
     subst hcut;have Ef:=aa (show aO (fun m=>m=d.heap.size) w6 (w6.setCell (V d 0) (.slice (some (H g')) (X.length+1) oh)) from aO.kU _ rfl);have uf:=aa (show(w6.setCell (V d 0) (.slice (some (H g')) (X.length+1) oh)).heap[d.heap.size]?=some (.cells #[.slice (some (H g')) (X.length+1) oh] 165 (0,0)) from setRow zZ.o);have qt:=aa ((Ef.o.other Q.heap.size (aN ov.o) bp).trans ov.o);have yC:=aa (iV rX.o.1 (g:=d.heap.size) (o:=0) (fun e=>by
      obtain⟨cur,M⟩:=bq rX.o.1 e;exact absurd (bK M zZ.o) (by decide)) (.slice (some (H g')) (X.length+1) oh))
     obtain⟨w7,z6⟩:∃w7,w6.setCell (V d 0) (.slice (some (H g')) (X.length+1) oh)=w7:=⟨_,rfl⟩;rw[z6]at Ef uf qt yC⊢;have Rn:=aa (show KeepsOthers w6 w7 by rw[<-z6];exact KeepsOthers.setCell _ _ _);have sf:=aa (show ∀n,n<=d.heap.size->Below n w6 w7 by rw[<-z6];exact fun n hn=>(apY n w6).setCell (p:=(V d 0)) hn _);clear z6 g5 g6 f5 f6 Rm yB D9;have g6:w7.cell? (V Q 0)=some (.slice none 0 0):=by simp[World.cell?,qt.o]
     have f6:=cG qt.o 0;have qE:KeepsFrom (w2.heap.size+2) wc (w7.setCell (V Q 0) (.slice none 0 0))/\tq S wc (w7.setCell (V Q 0) (.slice none 0 0))/\BV d Q.heap.size S jh none 0 [] Y ((pre++[x]).map fun x=>x.1) (w7.setCell (V Q 0) (.slice none 0 0)):=by
      have IH:aO (fun m=>m=Q.heap.size) w7 (w7.setCell (V Q 0) (.slice none 0 0)):=aO.kU _ rfl;have DH:=Rh bL.o;have A5:KeepsOthers _ w6:=KeepsOthers.of_grownBy rX.o.2 (fun j o au af=>by
       obtain⟨cur,M⟩:=bq (c7 xa.o bL.o) au;rw[M]at af;cases af;rfl)
      have qX:tq S wc (w7.setCell (V Q 0) (.slice none 0 0)):=fun m N=>by
       obtain⟨Hp,Gh,LJ,Gi,_⟩:=BR.o m N;have yD:=(cW.o.1.n2 m N).trans Gi;have aw:=bL.o.block m (aN yD);have cS:=Ee.o.other m (aN (aw.trans yD)) (fun e=>by
        obtain⟨cur,M⟩:=bq (c7 xa.o bL.o) e;rw[aw,cW.o.1.n2 m N]at M;exact iN.o.2.2.2.2.2.2 m _ _ N M)
       have iQ:=Ef.o.other m (aN (cS.trans (aw.trans yD))) (fun e=>iN.o.2.2.2.2.1 (e▸N));have qH:=IH.other m (aN (iQ.trans (cS.trans (aw.trans yD)))) (fun e=>iN.o.2.2.2.2.2.1 (e▸N));exact qH.trans (iQ.trans (cS.trans aw))
      refine⟨((DH.trans A5).trans (Rn.o.trans (KeepsOthers.setCell _ _ _))).from _,qX,?_⟩;rw[aqi];have II:=j5.o;refine⟨?_,?_,cW.o.1.n2.trans qX,?_,?_⟩
      ·rw[show[x].map (fun x=>x.1)=[x.1] from rfl,II];refine⟨_,_,(IH.other d.heap.size (aN uf.o) (aqa bp)).trans uf.o,?_,eb.snoc (R:=D6 none) (a:=(0,0)) (b:=.iface 382 (.slice none 0 0)) ?_ Yi.o⟩
       ·rw[ap4];exact iV yC.o (fun e=>by
         obtain⟨cur,M⟩:=bq yC.o e;exact absurd (bK M qt.o) (by decide)) _
       exact⟨none,0,rfl,apX _,apZ _,fun h0=>absurd h0 (by decide)⟩
      ·rw[show[x].map (fun x=>x.1)=[x.1] from rfl,II];exact⟨none,.inl ⟨rfl,rfl⟩,setRow qt.o⟩
      ·have aq:=cW.o.1.Gd;have aY:=aq.trans (bL.o.mono aq.size);have bb:=aY.grown rX.o.2 aY.size (fun m N=>(ap1 cW.o.2.2 m N).1);have gp:=bb.trans (sf.o _ (apX _));exact gp.trans ((apY _ w7).setCell (p:=(V Q 0)) (by omega) _)
      simp only[ap4,ap2,aqk,aqC];omega
     have Mw:=aa qE;clear qE
     gi_wp2
     rw[mR];exact Mw.o
  obtain⟨g,Rk⟩:∃g,p=(H g):=by
   rcases lC.o.2 with⟨aj,_⟩|⟨g,cap,cur,aj,_⟩
   ·rw[zX]at aj;cases aj
   rw[zX]at aj;simp only[aqn,aqo]at aj;exact⟨g,aj.1⟩
  subst Rk;subst zX;dsimp only at Ge af;have cR:=aa af;clear af;have D9:W.cell? (V Q 0)=some (.slice (some (K g o)) (L.length-r) (dh-r)):=by simp[World.cell?,Ge]
  have ahA:=vE;unfold maxLen at ahA;have Hy:S g:=iN.o.2.2.2.1 g rfl;have zt:=aa (show ∀j (au:r+j<L.length),W.cell? (K g (o+j*4))=some (A L[r+j].op.id.1)/\W.cell? (K g (o+j*4+1))=some (A L[r+j].op.id.2)/\W.cell? (K g (o+j*4+2))=some (A L[r+j].op.nth)/\W.cell? (K g (o+j*4+3))=some (.iface L[r+j].t L[r+j].v) from fun j au=>by
   obtain⟨cC,aj,aw,cS⟩:=fN.cells lC.o (r+j) au;have af:=cR.o (by omega);rw[show(r+j)*4=o+j*4 by omega]at cC aj aw cS;exact⟨cW.o.1.n2.cell Hy cC,cW.o.1.n2.cell Hy aj,cW.o.1.n2.cell Hy aw,cW.o.1.n2.cell Hy cS⟩)
  obtain⟨U,hcut⟩:∃U,U=uE (L.drop r) part:=⟨_,rfl⟩;rw[<-hcut]at j5;have ahB:r+U<=L.length:=by
   have :=Rc (L.drop r) part;rw[aqA]at this;omega
  have BX:=aa (show ∀j (au:j<U),en (L[r+j]'(ap3 (Nat.add_lt_add_left au r) ahB))∈part from fun j au=>by
   rw[hcut]at au;have :=X9 (fun o=>decide (en o∈part)) (L.drop r) j au;simp only[asL]at this;exact of_decide_eq_true this)
  have ahC:=aa (show ∀(au:r+U<L.length),en L[r+U]∉part from fun au=>by
   have :=Ya (fun o=>decide (en o∈part)) (L.drop r) (by rw[aqA];unfold uE at hcut;omega);simp only[asL]at this;have e:((L.drop r).takeWhile fun o=>decide (en o∈part)).length=U:=hcut.symm;simp only[e]at this;exact of_decide_eq_false this)
  clear hcut;have gV:((X.length:Int)==3)=false:=by simpa using hY
  gi_upto_region 6 with fail
  gi_step
  gi_step
  gi_step
  gi_step
  gi_step
  gi_step
  gi_step
  gi_step
  gi_cut [8] from 20 (fun w wc=>w=A (U:Nat)/\J W wc)
  case first =>
   gi_wp2
   gi_loopw [8] (fun w wr=>∃j,j<=U/\w=A (j:Nat)/\J W wr) (fun w _=>U-(intOf w).toNat)
   case atStart=>exact⟨0,apZ _,rfl,apY _ _⟩
   case round=>
    obtain⟨j,hjc,rfl,a8⟩:=hrel;replace D9:=ae a8 D9;have AW:(0:Int)<=(j:Int):=aqc _;by_cases iu:r+j<L.length
    ·obtain⟨cC,aj,aw,cS⟩:=zt.o j iu;replace cC:=ae a8 cC;replace aj:=ae a8 aj;replace aw:=ae a8 aw;replace cS:=ae a8 cS;have AR:(j:Int)<((L.length-r:Nat):Int):=by omega
     have aK:=aa a8;clear a8;have uF:=aa (show decide ((L[r+j].op.id.2,L[r+j].op.nth)∈part)=decide (j<U) by
      by_cases pj:j<U
      ·rw[decide_eq_true pj];exact decide_eq_true (BX.o j pj)
      have rj:j=U:=by omega
      rw[decide_eq_false pj];subst rj;exact decide_eq_false (ahC.o iu))
     obtain⟨y,Yk⟩:∃y,y=L[r+j]:=⟨_,rfl⟩;rw[<-Yk]at cC aj aw cS uF;clear Yk;have dd:=aa (fun c5 (ab:J W c5)=>aho (zY.o.ae ab) y.op.id.2 y.op.nth (by omega) (by omega) (apX _) (by omega));rw[uF.o]at dd;by_cases pj:j<U
     ·rw[decide_eq_true pj]at dd
      gi_wp2_with (first
       |(refine⟨trivial,?_⟩;gi_at_call 280;refine(CallsIn.inRound l (callsIn_wide.2 (Q0 _ _ _ _ _ _))).mono ?_;rintro e w4 ⟨rfl,gp⟩;have Eg:=aa (aK.o.trans (gp.mono aK.o.size));clear gp)
       |(refine⟨trivial,?_⟩;gi_at_call 279;refine(CallsIn.inRound l (callsIn_wide.2 (dd.o _ Eg.o))).mono ?_;rintro e w5 ⟨rfl,q6⟩;have IJ:=aa (Eg.o.trans (q6.mono Eg.o.size));clear q6)
       |fail)
      go_roundw
      case rel=>exact⟨j+1,by omega,by go_num,IJ.o⟩
      case measure=>simp[intOf];omega
     rw[decide_eq_false pj]at dd;have Ro:=aa (show j=U by omega);clear pj
     gi_wp2_with (first
      |(refine⟨trivial,?_⟩;gi_at_call 280;refine(CallsIn.inRound l (callsIn_wide.2 (Q0 _ _ _ _ _ _))).mono ?_;rintro e w4 ⟨rfl,gp⟩;have Eg:=aa (aK.o.trans (gp.mono aK.o.size));clear gp)
      |(refine⟨trivial,?_⟩;gi_at_call 279;refine(CallsIn.inRound l (callsIn_wide.2 (dd.o _ Eg.o))).mono ?_;rintro e w5 ⟨rfl,q6⟩;have IJ:=aa (Eg.o.trans (q6.mono Eg.o.size));clear q6)
      |fail)
     gi_meet
     case rel=>exact⟨by rw[Ro.o],IJ.o⟩
    have AR:¬(j:Int)<((L.length-r:Nat):Int):=by omega
    have Ro:=aa (show j=U by omega);have IJ:=aa a8;clear a8
    gi_wp2_with (first
     |(refine⟨trivial,?_⟩)
     |fail)
    gi_meet
    case rel=>exact⟨by rw[Ro.o],IJ.o⟩
  case rest=>
   obtain⟨rfl,a8⟩:=hcut;have xa:=aa (c7 cW.o.2.2 a8);have Ea:=aa (bj cW.o.2.1 a8);have Eb:=aa (bj Ge a8);have ahy:X.length<=3:=by have :=Gf.o;omega
   replace yB:=ae a8 yB;replace D9:=ae a8 D9;have qc:d.heap.size<wc.heap.size:=aN Ea.o;have Rl:Q.heap.size<wc.heap.size:=aN Eb.o;have bp:Q.heap.size≠d.heap.size:=by
    have :=h6.o.size;simp only[World.size_alloc]at this;omega
   have ahz:wc.heap.size≠d.heap.size:=by omega
   have P6:wc.heap.size≠Q.heap.size:=by omega
   have bL:=aa (show J wc (wc.alloc (.cells #[.iface 382 (.slice (some (K g o)) U (dh-r))] 147)).drew from((apY wc.heap.size wc).alloc (apX _) _).drew);obtain⟨v',w6,fl,Ec,Ed,_⟩:=run_append_own (P:=prog) (wc.alloc (.cells #[.iface 382 (.slice (some (K g o)) U (dh-r))] 147)).drew d.heap.size 165 165 147 i0 .nilIface 1 16 underlying165 hi hz0 Yf Yg rfl (by decide) (.slice a5 X.length jC) X.length aC (c7 xa.o bL.o) (V wc 0) 1 1 [.iface 382 (.slice (some (K g o)) U (dh-r))] rfl (by
    intro j u au
    match j with
    |0=>simp at au;subst au;simp[go_sem]
    |j+1=>simp at au) (by simp[Value.oneCell']) (by unfold maxLen;omega) (by omega) (ap0 (Nat.le_of_lt qc) bL.o.size)
   obtain⟨g',oh,rfl⟩:=ownsRow_succ Ec;have Ee:=aa (aO.r2 (S:=fun m=>(Value.slice a5 X.length jC).ownBlock=some m) Ed (fun m N=>N));have vL:=aa (show(Value.slice a5 X.length jC).ownBlock≠some d.heap.size from fun e=>by
    obtain⟨cur,M⟩:=bq xa.o e;exact absurd (bK M Ea.o) (by decide))
   have HP:=aa (show(Value.slice a5 X.length jC).ownBlock≠some Q.heap.size from fun e=>by
    obtain⟨cur,M⟩:=bq xa.o e;exact absurd (bK M Eb.o) (by decide))
   have zZ:=aa ((Ee.o.other d.heap.size (ap3 qc bL.o.size) vL.o).trans (bj Ea.o bL.o));have ov:=aa ((Ee.o.other Q.heap.size (ap3 Rl bL.o.size) HP.o).trans (bj Eb.o bL.o));have f5:=cG zZ.o 0;have f6:=cG ov.o 0;have g5:w6.cell? (V d 0)=some (.slice a5 X.length jC):=by simp[World.cell?,zZ.o]
   have g6:w6.cell? (V Q 0)=some (.slice (some (K g o)) (L.length-r) (dh-r)):=by simp[World.cell?,ov.o]
   have rX:=aa (And.intro Ec Ed);have k5:=aa a8;clear Ec Ed a8;have Mx:(0:Int)<=(U:Int):=aqc _;have My:U<=L.length-r:=by omega
   have Fa:L.length-r<=dh-r:=by omega
   have Rm:=Ye fl;clear fl
   gi_step
   gi_step
   gi_cut [] from 38 (fun w7=>w7=w6.setCell (V d 0) (.slice (some (H g')) (X.length+1) oh))
   case first =>
    gi_region_with (fail)
    all_goals gi_wp2
    all_goals gi_meet
    all_goals rfl
   case rest=>
    subst hcut;have Ef:=aa (show aO (fun m=>m=d.heap.size) w6 (w6.setCell (V d 0) (.slice (some (H g')) (X.length+1) oh)) from aO.kU _ rfl);have uf:=aa (show(w6.setCell (V d 0) (.slice (some (H g')) (X.length+1) oh)).heap[d.heap.size]?=some (.cells #[.slice (some (H g')) (X.length+1) oh] 165 (0,0)) from setRow zZ.o);have qt:=aa ((Ef.o.other Q.heap.size (aN ov.o) bp).trans ov.o);have yC:=aa (iV rX.o.1 (g:=d.heap.size) (o:=0) (fun e=>by
     obtain⟨cur,M⟩:=bq rX.o.1 e;exact absurd (bK M zZ.o) (by decide)) (.slice (some (H g')) (X.length+1) oh))
    obtain⟨w7,z6⟩:∃w7,w6.setCell (V d 0) (.slice (some (H g')) (X.length+1) oh)=w7:=⟨_,rfl⟩;rw[z6]at Ef uf qt yC⊢;have Rn:=aa (show KeepsOthers w6 w7 by rw[<-z6];exact KeepsOthers.setCell _ _ _);have sf:=aa (show ∀n,n<=d.heap.size->Below n w6 w7 by rw[<-z6];exact fun n hn=>(apY n w6).setCell (p:=(V d 0)) hn _);clear z6 g5 g6 f5 f6 Rm yB D9;have g6:w7.cell? (V Q 0)=some (.slice (some (K g o)) (L.length-r) (dh-r)):=by simp[World.cell?,qt.o]
    have f6:=cG qt.o 0;have qE:∀tX,Yd (some (H g)) dh (r+U) tX->KeepsFrom (w2.heap.size+2) W (w7.setCell (V Q 0) (.slice tX (L.length-r-U) (dh-r-U)))/\tq S W (w7.setCell (V Q 0) (.slice tX (L.length-r-U) (dh-r-U)))/\BV d Q.heap.size S jh (some (H g)) dh L Y ((pre++[x]).map fun x=>x.1) (w7.setCell (V Q 0) (.slice tX (L.length-r-U) (dh-r-U))):=by
     intro tX hL8;have IH:aO (fun m=>m=Q.heap.size) w7 (w7.setCell (V Q 0) (.slice tX (L.length-r-U) (dh-r-U))):=aO.kU _ rfl;have Ia:=Rh k5.o;have DH:=Rh bL.o;have A5:KeepsOthers _ w6:=KeepsOthers.of_grownBy rX.o.2 (fun j o au af=>by
      obtain⟨cur,M⟩:=bq (c7 xa.o bL.o) au;rw[M]at af;cases af;rfl)
     have qX:tq S W (w7.setCell (V Q 0) (.slice tX (L.length-r-U) (dh-r-U))):=fun m N=>by
      obtain⟨Hp,Gh,LJ,Gi,_⟩:=BR.o m N;have yD:=(cW.o.1.n2 m N).trans Gi;have aj:=k5.o.block m (aN yD);have aw:=bL.o.block m (aN (aj.trans yD));have cS:=Ee.o.other m (aN (aw.trans (aj.trans yD))) (fun e=>by
       obtain⟨cur,M⟩:=bq (c7 xa.o bL.o) e;rw[aw,aj,cW.o.1.n2 m N]at M;exact iN.o.2.2.2.2.2.2 m _ _ N M)
      have iQ:=Ef.o.other m (aN (cS.trans (aw.trans (aj.trans yD)))) (fun e=>iN.o.2.2.2.2.1 (e▸N));have qH:=IH.other m (aN (iQ.trans (cS.trans (aw.trans (aj.trans yD))))) (fun e=>iN.o.2.2.2.2.2.1 (e▸N));exact qH.trans (iQ.trans (cS.trans (aw.trans aj)))
     refine⟨(((Ia.trans DH).trans A5).trans (Rn.o.trans (KeepsOthers.setCell _ _ _))).from _,qX,?_⟩;rw[aqi];have II:=j5.o;have BZ:=cW.o.1.Gd.size;refine⟨?_,?_,cW.o.1.n2.trans qX,?_,?_⟩
     ·rw[show[x].map (fun x=>x.1)=[x.1] from rfl,II];refine⟨_,_,(IH.other d.heap.size (aN uf.o) (aqa bp)).trans uf.o,?_,eb.snoc (R:=D6 (some (H g))) (a:=(r,U)) (b:=.iface 382 (.slice (some (K g o)) U (dh-r))) ?_ Yi.o⟩
      ·rw[ap4];exact iV yC.o (fun e=>by
        obtain⟨cur,M⟩:=bq yC.o e;exact absurd (bK M qt.o) (by decide)) _
      refine⟨some (K g o),dh-r,rfl,by show U<=dh-r;omega,by omega,fun h0=>⟨(H g),rfl,?_⟩⟩;have h0':0<U:=h0;rw[cR.o (by omega)]
     ·rw[show[x].map (fun x=>x.1)=[x.1] from rfl,II];refine⟨tX,hL8,?_⟩;rw[show L.length-(r+U)=L.length-r-U by omega,show dh-(r+U)=dh-r-U by omega];exact setRow qt.o
     ·have aq:=cW.o.1.Gd.trans (k5.o.mono BZ);have aY:=aq.trans (bL.o.mono aq.size);have bb:=aY.grown rX.o.2 aY.size (fun m N=>(ap1 cW.o.2.2 m N).1);have gp:=bb.trans (sf.o _ (apX _));exact gp.trans ((apY _ w7).setCell (p:=(V Q 0)) (by omega) _)
     simp only[ap4,ap2,aqk,aqC];omega
    have Mw:=aa qE;clear qE
    gi_wp2
    ·have cC:dh-r-U=0:=by omega
     have aD:=Mw.o (some (K g o)) (.inr ⟨_,o,rfl,rfl,fun h=>by omega⟩);rw[cC]at aD;exact aD
    exact Mw.o (some (K g (o+U*4))) (.inr ⟨_,_,rfl,rfl,fun h=>by have :=cR.o (by omega);omega⟩)
 case done=>
  rintro D xs W ot b0 cD ck;obtain⟨v,aC,aF,fe,w8⟩:=cD.row;have M:W.cell? (V d 0)=some v:=by simp[World.cell?,aF]
  have dW:xs.map (fun x=>x.1)=List.range (min (chunks Y.length) 3):=by
   have h1:=cD.Re;have h2:=b0;rw[h2]at h1⊢;rw[aq6]at h1;rw[arH h1]
  rw[dW]at fe w8;have aP:=aa (And.intro cD (And.intro fe w8));clear fe w8 b0;have Rp:d.heap.size<=D:=by omega
  gi_wp2
  refine⟨by simp,.inl ⟨_,_,rfl,run_takeDeferred ck,?_⟩⟩;refine⟨_,results_tmp rfl _ _ _,v,aC,L,dr,dh,_,rfl,?_,bR.o.2.1,bR.o.2.2.1,rfl,?_,?_,aP.o.1.Gd.trans (O7 Rp ck)⟩
  ·exact ownsRow_putObj (ca lC.o fun g ag=>aP.o.1.n2 g (iN.o.2.2.2.1 g ag)) _ ck rfl
  ·rw[<-F9.o];exact ownsRow_putObj aP.o.2.1 _ ck rfl
  rw[<-F9.o];exact aP.o.2.2
 case stop=>
  rintro D k pre W ot ⟨m,N,nZ⟩ ⟨rfl,D8,x,rfl,al,cD⟩ ck;obtain⟨v,aC,aF,fe,w8⟩:=cD.row;have M:W.cell? (V d 0)=some v:=by simp[World.cell?,aF]
  have dW:D8.map (fun x=>x.1)=List.range (min (chunks Y.length) 3):=by
   have aL:m=4:=by
    have :=congrArg List.length nZ;simp only[ap2,ap4,aqk,aqC,aq6]at this;omega
   subst aL;rw[Nat.min_eq_right (by omega)];rw[aqi]at nZ;have :=congrArg (List.take 3) nZ;rw[arf (by rw[ap2,al];exact apX _),aql (by rw[ap2,al];exact apX _)]at this;exact this
  rw[dW]at fe w8;have aP:=aa (And.intro cD (And.intro fe w8));clear fe w8 nZ;have Rp:d.heap.size<=D:=by omega
  gi_wp2
  refine⟨by simp,.inl ⟨_,_,rfl,run_takeDeferred ck,?_⟩⟩;refine⟨_,results_tmp rfl _ _ _,v,aC,L,dr,dh,_,rfl,?_,bR.o.2.1,bR.o.2.2.1,rfl,?_,?_,aP.o.1.Gd.trans (O7 Rp ck)⟩
  ·exact ownsRow_putObj (ca lC.o fun g ag=>aP.o.1.n2 g (iN.o.2.2.2.1 g ag)) _ ck rfl
  ·rw[<-F9.o];exact ownsRow_putObj aP.o.2.1 _ ck rfl
  rw[<-F9.o];exact aP.o.2.2
theorem ahD{gt o early q gk m}(g:dA a c h i b j k gt o f early q)(u:rl a gk e b m)(w:∀d,d<b->0<=m d/\o d<=60)(y:∀d,d<b->m d<=60)(z:∀x∈f,0<=x.op.id.2/\x.op.id.2<b)(B:(f.map en).Nodup):
  O 275 #[Z c,.slice (some (H gk)) b e] a fun l p=>∃v s n t C r,l=.returned v/\fN a.heap.size p (.slice t n.length C) n/\n.Perm (f.filter (sg m))/\yy n/\r=(lk n (kn m o b) (List.range (min (chunks (kn m o b).length) 3))).2/\p.ownsRow a.heap.size 147 1 v r.length s/\eb (D6 t) r s/\J a p:=
 callsIn_wide.1 (ahx g u w y z B)
end
section
open Go.RowKit Tryz
attribute [local go_sem ↓] Go.wp_at_zero Go.wp_at_succ
variable {a:List ar}{b d h j:Nat}{c:World}{e:Nat->Int}{f i:Nat->Prop}
abbrev hp:=List Int⊕List ar
def rowOf (l:List Int) (i:Nat):Int:=l.getD i 0
def rn (w:World) (I:Nat->Prop):hp->Value->Prop
 |.inl l,u=>∃g c,u=.iface 115 (.slice (some (H g)) l.length c)/\rl w g c l.length (rowOf l)/\I g
 |.inr a,u=>∃s,u=.iface 382 s/\opsV w I s a
theorem rl.ft{w}(a:rl w b d h e)(f:c.heap[b]?=w.heap[b]?)(g:w.heap.size<=c.heap.size):rl c b d h e:=
 ⟨fun i j=>by have :=a.cells i j;simpa[World.cell?,f]using this,a.IB,a.IC,ap3 a.lt g⟩
theorem rn.ft{w a:World}{I h:Nat->Prop}:∀{m:hp} {u:Value},rn w I m u->(∀k,I k->a.heap[k]?=w.heap[k]?)->w.heap.size<=a.heap.size->(∀k,I k->h k)->rn a h m u
 |.inl l,u,⟨g,c,b,d,i⟩,e,j,f=>⟨g,c,b,d.ft (e g i) j,f g i⟩
 |.inr n,u,⟨s,b,d⟩,e,_,f=>⟨s,b,d.ft e f⟩
theorem Yl(a:List ar)(c:List PId):∀(e:List Nat) (s:Nat×List (Nat×Nat)),s.1<=a.length->(∀b∈s.2,b.1+b.2<=a.length)->∀b∈(e.foldl (yz a c) s).2,b.1+b.2<=a.length
 |[],s,_,h=>h
 |k::e,s,g,h=>by
  have f:=Rc (a.drop s.1) (partOf c k);rw[aqA]at f;refine Yl a c e (yz a c s k) (by unfold yz;omega) fun b d=> ?_
  rcases ap7.1 d with d|d
  ·simp_all
  obtain rfl:=ap9.1 d;omega
theorem ahE{c:List PId}{d:List Nat}{b:Nat×Nat}(h:b∈(lk a c d).2):b.1+b.2<=a.length:=Yl a c d (0,[]) (apZ _) (fun _ e=>by cases e) b h
def IK (a:List ar) (b:Nat×Nat):hp:=.inr ((a.drop b.1).take b.2)
theorem ahF{u}{n:Option Addr}(h:fN d c (.slice n a.length b) a)(M:a.length<=300)(r:∀x∈a,pX c f (.iface x.t x.v) x.op.chg)(s:∀k,(Value.slice n a.length b).ownBlock=some k->f k){i:Nat×Nat}(N:i.1+i.2<=a.length)(w:D6 n i u):rn c f (IK a i) u:=by
 obtain⟨j,l,rfl,P,y,z⟩:=w;have o:((a.drop i.1).take i.2).length=i.2:=by rw[aqg,aqA];omega
 refine⟨_,rfl,j,l,by rw[o],by omega,y,fun q=> ?_,fun x B=>r x (aq8 (aqE B))⟩;rw[o]at q;obtain⟨p,rfl,C⟩:=z q;obtain⟨g,rfl⟩:∃g,p=(H g):=by
  rcases h.2 with⟨m,_⟩|⟨g,Q,R,m,_⟩
  ·cases m
  simp_all
 refine⟨g,i.1*4,C,⟨fun k D=> ?_,s g rfl,by omega⟩⟩;rw[o]at D;have E:i.1+k<a.length:=by omega
 have e:((a.drop i.1).take i.2)[k]'(by omega)=a[i.1+k]:=by simp
 obtain⟨F,m,I,L⟩:=fN.cells h (i.1+k) E;rw[show(i.1+k)*4=i.1*4+k*4 by omega]at F m I L
 simp_all
def ahG (B:Nat) (w:World) (v:Value) (a:List ar) (b:Option Addr) (e:Nat) (c:List (Nat×Nat)) (d:List Value):Prop:=fN B w (.slice b a.length e) a/\w.ownsRow B 147 1 v c.length d/\eb (D6 b) c d
def Gj (c:List ar) (a b:Nat->Int) (N:Nat):List (Nat×Nat):=(lk c (kn a b N) (List.range (min (chunks (kn a b N).length) 3))).2
theorem ahH{n gt u early q gk B}(p:dA c h f i b j n gt u a early q)(o:Int)(U:bC o q.kX=some d)(C:rl c gk B b e)(S:i gk)(X:∀g,g<b->0<=e g/\u g<=60)(Y:∀g,g<b->e g<=60)(fb:∀x∈a,0<=x.op.id.2/\x.op.id.2<b)(cO:(a.map en).Nodup):
  O 273 #[.slice (some (H gk)) b B,Z h,A o] c fun l D=>∃v E t F I,l=.returned v/\t.Perm (a.filter (sg e))/\yy t/\ahG c.heap.size D v t F I (Gj t e u b) E/\dA D h f i b j n gt u a early {q with ea:=fun m=>if m=d then n1 (q.ea d) e b else q.ea m}/\aO (fun k=>k=d) c D/\f d:=by
 go_enter func273,ntmps273;go_wp2_with fail
 refine(ahl p o U C S).mono ?_;rintro l w1 ⟨⟨r,rfl⟩,w,s,y⟩;go_wp2_with fail
 refine((fun W (bA:dA W h f i b j n gt u a early {q with ea:=fun m=>if m=d then n1 (q.ea d) e b else q.ea m}) (hk:rl W gk B b e)=>ahD bA hk X Y fb cO) w1 w (C.ft (s.other gk C.lt ((show ∀k,f k->gk≠k from fun k hF l=>p.eC _ S (l▸hF)) d y)) s.size)).mono ?_;rintro l w2 ⟨v,E,t,F,I,bs,rfl,L,M,N,P,Q,R,z⟩;go_wp2;go_ret
 obtain⟨L,M,N,P,Q,R,z⟩:=And.intro L (And.intro M (And.intro N (And.intro P (And.intro Q (And.intro R z)))));obtain⟨w,s,y⟩:=And.intro w (And.intro s y);subst P;exact⟨v,E,t,F,I,rfl,M,N,⟨gT L s.size,gT Q s.size,R⟩,w.ae z,s.trans (aO.cJ z),y⟩
theorem ahI{gt early q v}(l:dA c d i f b h j gt e a early q)(s:List ar)(t:opsV c f v s)(B:∀x∈s,0<=x.op.id.2/\x.op.id.2<b)(C:((iB e early s).map (·.1)).Nodup)(D:∀p∈iB e early s,p.1.2<=60)(E:∀g,g<b->0<=e g/\e g<=1000)(F:((iL (iB e early s) e b++a).map fun o=>o.op.id).Nodup)(I:a.length+(iL (iB e early s) e b).length<=300)(L:∀x∈iL (iB e early s) e b,0<=x.op.id.2/\x.op.id.2<b)(m:Int):
  O 308 #[v,Z d,A m] c fun k u=>k=.returned (.slice none 0 0)/\∃w y z,dA u d w f b h j (nB gt (iL (iB e early s) e b)) (hasAll e (iL (iB e early s) e b)) (iZ a (iL (iB e early s) e b)) z y/\vH (iB e early s) (qD (iB e early s) e b) z/\FZ q y/\c6 i w c u:=by
 have M:=ahe l s t B C D E F I L;obtain⟨n,P,rfl,_⟩:=t;go_enter func308,ntmps308;go_wp2_with fail
 refine M.mono ?_;rintro k Q ⟨⟨r,rfl⟩,N⟩;go_wp2;go_ret
 exact⟨rfl,N⟩
end
end Go.Proofs.YtnkpogjiiohapaaGreatDoor
