/- Our own text. -/
import Derived.Maps.RangeRun
import Derived.RangeFuncGives
import Derived.RangeFuncSeq
import Derived.Sort.MapsRangeIn
import Derived.OwnWalkIn
import Derived.TacticsInMore
import Derived.RegionIn
import Derived.LoopNIn
import Derived.LoopIn
import Derived.Maps.AppendAt
import Derived.Shelf.Abstract
import Derived.RangeFuncNested
import Derived.RangeFuncBox
import Derived.RangeFuncLeaves
import Derived.Test.YtnkpogjiiohapaaGreatDoorA07
set_option linter.unusedSimpArgs false
set_option linter.unusedVariables false
set_option maxRecDepth 100000
set_option maxHeartbeats 2000000
namespace Go.Proofs.YtnkpogjiiohapaaGreatDoor
section
open Go.RowKit Tryz
open Go.ChangeMaps (setBlock)
variable {a:Array MapEntry}{b:List MapEntry}{c e f:Nat}{d h:World}
def Fs (b r:Nat) (w:World):Nat:=
 match w.heap[b]?,w.heap[r]? with
 |some (.map a _),some (.mapIter _ _ seen _)=>(leftOf a seen).size
 |_,_=>0
structure Walk (es:Array MapEntry) (aT b r:Nat) (seen:Array Nat) (l:List MapEntry) (w:World):Prop where
 map:w.heap[b]?=some (.map es aT)
 iter:w.heap[r]?=some (.mapIter (some b) aT seen aT)
 seen:seen.toList=l.map (·.born)
 sub:∀e∈l,e∈es.toList
theorem Walk.left{seen w}(h:Walk a f c e seen b w):Fs c e w=(leftOf a seen).size:=by
 simp[Fs,h.map,h.iter]
theorem Lr(b:h=d\/h=d.drew)(r:Nat)(o:Obj):d.grownBy (setBlock h r o) (some r):=by
 have a:h.heap=d.heap/\h.os=d.os/\h.tape=d.tape/\h.output=d.output:=by rcases b with rfl|rfl<;>exact⟨rfl,rfl,rfl,rfl⟩
 refine⟨a.2.1,a.2.2.1,a.2.2.2,by simp[setBlock,a.1],fun k f c=> ?_⟩;have :r≠k:=fun e=>c (by rw[e])
 simp[setBlock,arJ,this,a.1]
theorem Walk.next{r seen}(g:Walk a c f r seen b d)(k:r≠f){e:MapEntry}(l:e∈(leftOf a seen).toList)(m:h=d\/h=d.drew):
  Walk a c f r (seen.push e.born) (b++[e]) (setBlock h r (.mapIter (some f) c (seen.push e.born) c)):=by
 have j:h.heap=d.heap:=by rcases m with rfl|rfl<;>rfl
 refine⟨?_,?_,by simp[g.seen],?_⟩
 ·simp[setBlock,arJ,k,j,g.map]
 ·simp[setBlock,j,(ap8.1 g.iter).1]
 intro n i;rcases ap7.1 i with i|i
 ·exact g.sub n i
 simp at i;subst i;unfold leftOf at l
 simp_all
theorem HG{seen:Array Nat}{e:MapEntry}(d:e∈(leftOf a seen).toList):(leftOf a (seen.push e.born)).size<(leftOf a seen).size:=by
 have b:leftOf a (seen.push e.born)=(leftOf a seen).filter fun x=>x.born !=e.born:=by
  unfold leftOf;rw[Array.filter_filter];congr 1;funext x;by_cases b:x.born=e.born<;>simp[b,bne]
 rw[b];have c:e∈leftOf a seen:=by simp_all
 simp;exact⟨e,c,rfl⟩
theorem Walk.all{r seen}(h:Walk a f c r seen b d)(p:(a.toList.map (·.born)).Nodup)(v:(b.map (·.born)).Nodup)(w:(leftOf a seen).size=0):b.Perm a.toList:=by
 have D:=Array.eq_empty_of_size_eq_zero w;have x:∀e∈a.toList,e.born∈b.map (·.born):=by
  intro e m;rw[<-h.seen];apply Classical.byContradiction;intro q;have :e∈leftOf a seen:=by
   unfold leftOf
   simp_all
  simp_all
 have inj:∀g∈a.toList,∀k∈a.toList,g.born=k.born->g=k:=by
  intro g l k q E;obtain⟨i,s,rfl⟩:=aqv.1 l;obtain⟨j,t,rfl⟩:=aqv.1 q;by_cases y:i=j
  ·simp_all
  exfalso;have u:=aqT.1 p;rcases ast y with n|n
  ·exact u i j (by simpa using s) (by simpa using t) n (by simp_all)
  exact u j i (by simpa using t) (by simpa using s) n (by simp_all)
 have z:a.toList.Nodup:=(List.Pairwise.of_map _ (fun g c o e=>o (by rw[e])) p);have B:b.Nodup:=(List.Pairwise.of_map _ (fun g c o e=>o (by rw[e])) v);refine(List.perm_ext_iff_of_nodup B z).2 fun g=>⟨h.sub g,fun l=> ?_⟩
 obtain⟨e,m,C⟩:=ap5.1 (x g l);rw[<-inj e (h.sub e m) g l C];exact m
def KeysOf (l:List MapEntry) (a:List PId):Prop:=l.map (·.key)=a.map c0
def Vq:Value->Int
 |.int _ n=>n
 |_=>0
def O6:Value->PId
 |.agg c=>(Vq (c[0]?.getD undef),Vq (c[1]?.getD undef))
 |_=>(0,0)
theorem ad2{a b:List PId}(h:(a.map c0).Perm (b.map c0)):a.Perm b:=by
 have c:∀l:List PId,(l.map c0).map O6=l:=fun l=>by
  rw[aqO];have :O6∘c0=id:=by rfl
  simp_all
 have :=h.map O6
 simp_all
attribute [local go_sem] Oper.semAt_some
theorem ad3(F:Fence)(n:Nat)(Ft:F.fn 164)(oo:F.round=none)(hn:1<=n)(l R b:Nat)(p:List (PId×dU))(g:Array MapEntry)(f:Nat)(d S:List PId->World->Prop)(Dg:∀t x W,d t W->t.length<p.length->YieldAt F (n-1) prog l #[c0 x] W fun e u=>(e=.returned (.bool true)/\d (t++[x]) u/\KeepsWalks W u)\/(e=.returned (.bool false)/\S (t++[x]) u))(W:World)(E:AbidesFrom W.heap.size d)(hm:W.cell? (H R)=some (.map (some b)))(B:isMap c0 oX W b p g f)(h0:d [] W):
  CallsIn F n prog 164 #[.func (.yield l) #[] #[],Z R] W fun e u=>(∃v,e=.returned v)/\((∃U:List PId,U.Perm (p.map (·.1))/\d U u)\/∃t,True/\S t u):=by
 have qm:=run_range_map (P:=prog) W 159 36 57 b g f underlying159 B.blk;refine callsIn_of_wp func164 rfl Ft ?_ oo;simp only[ntmps164,arp,aqk,aqC,Nat.reduceAdd,Nat.reduceSub,ar7,ar8,ar9,asa,aqK,aqD]
 gi_wp2
 have eX:=B.lt;have Dh:Walk g f b W.heap.size #[] [] (W.alloc (.mapIter (some b) f #[] f)):=⟨by rw[hK W _ eX];exact B.blk,heap_alloc_new W _,rfl,fun e m=>by cases m⟩;have Vr:d [] (W.alloc (.mapIter (some b) f #[] f)):=E [] W _ none h0 (World.grownBy_alloc W _ none) (fun r e=>by cases e);have w:=B;gi_loopw [3] (fun _ wr=>∃seen q i,Walk g f b W.heap.size seen q wr/\(q.map (·.born)).Nodup/\KeysOf q i/\q.length+(leftOf g seen).size<=p.length/\d i wr) (fun _ wr=>Fs b W.heap.size wr)
 case atStart=>exact⟨#[],[],[],Dh,by simp,rfl,by rw[<-w.len];simp only[aqC,aqQ];exact Array.size_filter_le,Vr⟩
 case round=>
  obtain⟨seen,q,i,A7,cO,dW,wF,I⟩:=hrel;have s:=A7;have L:=dW;have X:=cO;rcases run_next_at (P:=prog) wr 0 W.heap.size b f f seen g f s.iter s.map w.old (apX _) with⟨tY,C⟩|⟨e,m,w1,M,C⟩
  ·gi_wp2
   go_end0
   refine⟨⟨_,rfl⟩,.inl ⟨i,?_,I⟩⟩;have ah:=s.all w.nodup X tY;have z:=ah.map (·.key);have D:g.toList.map (·.key)=(p.map (·.1)).map c0:=by
    have :=congrArg (List.map Prod.fst) w.mG;simpa[asA]using this
   rw[L,D]at z;exact ad2 z
  have Y:e∈g.toList:=by unfold leftOf at m;simp_all
  obtain⟨x,ao⟩:∃x,e.key=c0 x:=by
   have D:g.toList.map (·.key)=(p.map (·.1)).map c0:=by
    have :=congrArg (List.map Prod.fst) w.mG;simpa[asA]using this
   have :e.key∈g.toList.map (·.key):=ap5.2 ⟨e,Y,rfl⟩;rw[D]at this;obtain⟨y,_,N⟩:=ap5.1 this;exact⟨y,N.symm⟩
  have k:=aa (s.next (by omega) m M);obtain⟨j,Q⟩:∃j,j=setBlock w1 W.heap.size (.mapIter (some b) f (seen.push e.born) f):=⟨_,rfl⟩;rw[<-Q]at C k;have oq:=run_entry_at (P:=prog) j W.heap.size b f seen g f e k.o.iter k.o.map Y w.nodup;rw[ao]at C oq;have eD:wr.grownBy j (some W.heap.size):=by
   rw[Q];exact Lr M _ _
  have Vs:=E i wr j (some W.heap.size) I eD (fun r e=>by cases e;exact⟨apX _,_,s.iter,rfl⟩);have HH:d i (j.alloc (.cells #[A x.1,A x.2] 36)):=E i j _ none Vs (World.grownBy_alloc j _ none) (fun r e=>by cases e);have hlen:i.length<p.length:=by
   have z:i.length=q.length:=by have :=congrArg List.length L;simp_all
   have D:=HG m;omega
  obtain⟨fn,tmps,assign,body,N,bw⟩:=Dg i x _ HH hlen;have lC:=HG m;have zm:=m;clear m M Q eD Vs HH I;unfold c0 at C oq N;have HHX:=aa ao;gi_wp2
  refine bw.mono ?_;rintro e' jh (⟨rfl,hJ4,hE⟩|⟨rfl,Vt⟩)
  case inr=>
   gi_wp2
   exact bodyPost_ret (v:=.tuple #[]) (by simp[results,results164,go_sem]) rfl ⟨⟨_,rfl⟩,.inr ⟨_,trivial,Vt⟩⟩
  have ns:=aa hE;gi_wp2
  have gn:Walk g f b W.heap.size (seen.push e.born) (q++[e]) jh:=by
   have aY:=(ap8.1 k.o.map).1;have gU:=(ap8.1 k.o.iter).1;exact⟨ns.o.same b _ ((hK j _ aY).trans k.o.map) rfl,ns.o.same _ _ ((hK j _ gU).trans k.o.iter) rfl,k.o.seen,k.o.sub⟩
  have wL:=lC;go_roundw
  case rel=>
   refine⟨_,_,i++[x],gn,?_,?_,by simp;omega,hJ4⟩
   ·rw[aqi,aqF];refine⟨X,by simp,fun a av c hc Df=> ?_⟩;simp at hc;subst hc;have z:=zm;unfold leftOf at z;simp at z;rw[<-s.seen]at av
    simp_all
   unfold KeysOf;rw[aqi,aqi,L];simp[HHX.o]
  case measure=>rw[gn.left,s.left];omega
theorem ad4(F:Fence)(n:Nat)(f:F.fn 164)(g:F.round=none)(l b:Nat)(a i:List PId->World->Prop)(W:World)(j:AbidesFrom W.heap.size a)(o:W.cell? (H b)=some (.map none))(k:a [] W):
  CallsIn F n prog 164 #[.func (.yield l) #[] #[],Z b] W fun e c=>(∃v,e=.returned v)/\((∃d:List PId,d.Perm []/\a d c)\/∃m,True/\i m c):=by
 have p:=run_range_nilMap (P:=prog) W 159 36 57 underlying159;have q:=run_next_nilMap (P:=prog) W 0 0 0 #[];have s:a [] (W.alloc (.mapIter none 0 #[] 0)):=j [] W _ none k (World.grownBy_alloc W _ none) (fun r e=>by cases e);refine callsIn_of_wp func164 rfl f ?_ g;simp only[ntmps164,arp,aqk,aqC,Nat.reduceAdd,Nat.reduceSub,ar7,ar8,ar9,asa,aqK,aqD]
 gi_wp2
 gi_loopw [3] (fun _ wr=>wr=W.alloc (.mapIter none 0 #[] 0)) (fun _ _=>0)
 case atStart=>rfl
 case round=>
  subst hrel
  gi_wp2
  go_end0
  simp_all
theorem ad5(F:Fence)(n:Nat)(b:F.fn 138)(c:F.round=none)(a:Option Nat)(w:World):
  CallsIn F n prog 138 #[.map a] w fun e d=>e=.returned (.func (.func 164) #[] #[Z w.heap.size])/\d=w.alloc (.cells #[.map a] 159):=by
 refine callsIn_of_wp func138 rfl b ?_ c
 gi_wp2
 go_ret
 simp
theorem ad6(F:Fence)(n:Nat)(e:F.fn 164)(f:F.round=none)(m:1<=n)(c:Nat)(v:Option Nat)(d:List (PId×dU))(w:World)(o:w.cell? (H c)=some (.map v))(p:iG w v d):
  SeqStopsK F n prog 164 #[Z c] (fun x=> #[c0 x]) KeepsWalks (fun q=>q.Perm (d.map (·.1))) (fun _=>True) d.length w:=by
 intro l a g W h i y r j;have k:=ae h o;rcases p with⟨rfl,rfl⟩|⟨b,s,t,rfl,u⟩
 ·exact ad4 F n e f l c a g W i k j
 exact ad3 F n e f m l c b d s t a g r W i k (u.ae h) j
end
section
open Go.RowKit Tryz
attribute [local go_sem] Oper.semAt_some
variable {a b:World}
theorem ad7{g:Nat}{l:List Value}(h:∀j u,l[j]?=some u->a.cell? (K g j)=some u):∀j u,l[j]?=some u->a.cell? (((H g):Addr).add j)=some u:=by
 intro j u b;have :((H g):Addr).add j=(K g j):=by unfold Addr.add;simp_all
 simp_all
theorem ad8(h:KeepsOthers a b):KeepsWalks a b:=
 ⟨h.size,fun k o c d=>h.same k o c (by cases o<;>first |rfl|cases d)⟩
theorem O7{D:Nat}{o c:Obj}(f:b.heap.size<=D)(d:a.heap[D]?=some o):Below b.heap.size a (a.putObj D c):=
 (apY _ a).grown (grownBy_putObj' a D c) (by have :=(ap8.1 d).1;omega) (fun k e=>by simp_all)
theorem ad9(F:Fence)(n:Nat)(aD:F.fn 180)(E:F.round=none)(hn:2<=n)(g:Nat)(lb:Array Value)(O8:F.fn g)(Dj:∀args w,(callFunc g args).run prog w=.ok (.enter g args) w)(S apq:List PId->Prop)(N:Nat)(hN:N<=10000)(w:World)(aea:SeqStopsK F (n-1) prog g lb (fun x=> #[c0 x]) KeepsWalks S apq N w):
  CallsIn F n prog 180 #[.slice none 0 0,.func (.func g) #[] lb] w fun e I=>∃v L,e=.returned v/\S L/\gA w.heap.size I v L/\J w I:=by
 have t:1<=n:=by omega
 obtain⟨i0,hi,hz0,hz1,hz2⟩:=info_parts (P:=prog) (e:=36) (z:=.agg #[A 0,A 0]) (size:=2) (bytes:=16) (by rfl);refine callsIn_of_wp_marks func180 rfl aD ?_ E;simp only[ntmps180,arp,aqk,aqC,Nat.reduceAdd,Nat.reduceSub,ar7,ar8,ar9,asa,aqK,aqD]
 gi_wp2
 obtain⟨m,q⟩:∃m,w.alloc (.cells #[.slice none 0 0] 65)=m:=⟨_,rfl⟩;have M:J w m:=by rw[<-q];exact(apY _ w).alloc (apX _) _
 have rU:Boxed m w.heap.size 65 (.slice none 0 0):=by rw[<-q];exact Boxed.new w _ _
 have mr:m.heap.size=w.heap.size+1:=by rw[<-q];simp
 rw[q];refine wpIn_rangeFunc_ownH E t (gf:=g) (lb:=lb) rfl O8 Dj aea (fun h k=>h.trans k) ?O9 M (fun _=>rfl)
  (fun d W=>(∃v,Boxed W w.heap.size 65 v/\W.ownsRow w.heap.size 36 2 v d.length (d.flatMap lO)/\True)/\J w W) (fun _ _ _=>False)
  (OwnFrom.and (Own.from (holdsRow_own w.heap.size w.heap.size 65 36 2 (fun d:List PId=>d.length) (fun d=>d.flatMap lO) (fun _ _=>True)) _) (ownFrom_below (apX _) (by omega)))
  (fun _ _ _ _ _ h _ _=>h) ⟨⟨_,rU,aqe _ _ _ _,trivial⟩,M⟩
  (fun x u W=>∃b,w.heap.size<b/\W.heap[b]?=some (.cells #[A x.1,A x.2] 36 (0,0))/\u={tmps:= #[.slice none 0 0,.func (.func g) #[] lb,Z w.heap.size,undef,.slice none 0 0,Z b,.func (.func g) #[] lb,c0 x,undef,undef,undef,undef,undef],defers:=[]})
  ?hAx ?aeb ?aec ?aed ?aee
 case O9=>exact fun W l o o' _ Q _ hw=>KeepsWalks.putObj o' Q hw
 case hAx=>
  intro x u s W c5 row h ag R;obtain⟨b,t,y,al⟩:=h;refine⟨b,t,?_,al⟩;rw[ag.block b (ap8.1 y).1 (fun e=>by
   obtain⟨_,o,U,B⟩:=R b e.symm;rw[y]at U;cases U;cases B)]
  exact y
 case aeb=>
  rintro l d x W a ⟨⟨v,f,j,_⟩,i⟩ p;have C:=i.size;have lv:=f.lt;unfold c0
  gi_wp2
  exact p _ _ ((KeepsOthers.alloc _ _).from _) (KeepsWalks.alloc _ _) ⟨⟨v,f.alloc _,j.alloc _,trivial⟩,i.alloc C _⟩ ⟨W.heap.size,lv,World.alloc_heap_new W _,rfl⟩
 case aec=>
  rintro l d x u W Q ⟨r,R⟩ ⟨⟨v,f,j,_⟩,i⟩ ⟨b,hBx,X,rfl⟩ aE;have B:=f.cell;have C:=i.size;have cy:W.cell? (H b)=some (A x.1):=by simp[World.cell?,X]
  have bx:W.cell? (K b 1)=some (A x.2):=by simp[World.cell?,X]
  gi_wp2_with (gi_at_builtin;refine wpListIn_append_own _ rfl _ _ 65 rfl w.heap.size 36 i0 (.agg #[A 0,A 0]) 2 16 underlying65 hi hz0 hz1 hz2 rfl (by decide) _ _ _ rfl (j.alloc _) (V W 0) 1 1 (lO x) rfl rfl ?kC ?gM (by unfold maxLen;omega) (by omega) (by simp;omega) ?_;(case kC=>exact ad7 (Ky (by simp) (by simp)));(case gM=>exact Kx);intro v' w1 Y aef _;obtain⟨g',oh,rfl⟩:=ownsRow_succ Y;obtain⟨j4,iS,gU,c3,aY⟩:=f.appended (by decide) j C (apX _) Y aef;have kC:=j4.cell;have xY:=j4.frozen)
  exact⟨c3.from _,ad8 c3,⟨⟨_,iS,by rw[ap4,aqG];assumption,trivial⟩,i.trans aY⟩⟩
 case aed=>
  rintro D xs W ot b0 ⟨⟨v,f,j,_⟩,i⟩ p;have B:=f.cell
  gi_wp2
  refine⟨by simp,.inl ⟨_,_,rfl,run_takeDeferred p,?_⟩⟩;exact⟨_,results_tmp rfl _ _ _,v,xs,rfl,b0,ownsRow_putObj j _ p rfl,i.trans (O7 (by omega) p)⟩
 case aee=>
  intro D c d W _ _ h _;exact h.elim
end
end Go.Proofs.YtnkpogjiiohapaaGreatDoor
