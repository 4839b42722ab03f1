/- Our own text. -/
import Derived.Deep.CutBlock
import Derived.Deep.DeepCutAuto
import Derived.BigQuiet
import Derived.Test.YtnkpogjiiohapaaGreatDoorA35
import Derived.Test.YtnkpogjiiohapaaGreatDoorA30
import Derived.Test.YtnkpogjiiohapaaGreatDoorA33
import Derived.Test.YtnkpogjiiohapaaGreatDoorA32
set_option linter.unusedSimpArgs false
set_option linter.unusedVariables false
set_option maxRecDepth 1000000
set_option maxHeartbeats 3200000
namespace Go.Proofs.YtnkpogjiiohapaaGreatDoor
section
open Go.RowKit Tryz
variable {a b n:Nat}{c s:World}{d h i:Nat->Prop}{e:bP}{f:ep}{j m q v:Value}{k:List Nat}{u:List Value}
theorem ald(k:cL c b d h i a e f)(ok:gS a e)(j g:Nat)(r:j<a)(m:g<a)(w:j≠g):
  O 114 #[Z b,A j,A g] c fun l z=>l=.returned (A (if e.ms j g=[] then 12 else 0))/\jb b a d h i f.vl c z (nG a e j g):=by
 have x:=Ct k j g r m w;obtain⟨P,Q,R,S,_,_,_,_,y,_,s⟩:=k.uT r m;obtain⟨U,W,B,X,Y⟩:=k.queue r m;rw[B]at s;have C:=k
 match t:e.ms j g with
 |[]=>
  rw[if_pos rfl];rw[t]at s;have v:=aa (show nG a e j g=e by unfold nG;rw[t]);go_enter func114,ntmps114;go_wp2_with fail
  refine x.mono ?_;rintro l D ⟨⟨E,F,q,rfl⟩,rfl⟩;rw[y]at q;obtain⟨rfl,rfl⟩:=q;go_wp2;go_ret
  exact⟨rfl,by rw[v.o];exact C.left (apY _ _)⟩
 |p::I=>
  rw[if_neg (by simp)];have v:=aa (aaG k j g r m w t (ok.msg j g r m p (by simp_all)) (ok.wait g m));rw[t]at s;simp only[aqk]at s;obtain⟨n,L⟩:∃n,n=I.length:=⟨_,rfl⟩;rw[<-L]at s;have oR:¬((n:Int)+1=0):=by omega
  have wS:(((n:Int)+1)==0)=false:=by rfl
  go_enter func114,ntmps114;go_wp2_with fail
  refine x.mono ?_;rintro l D ⟨⟨E,F,q,rfl⟩,rfl⟩;rw[y]at q;simp only[aqn,aqo,aqx,and_true,true_and]at q;obtain⟨rfl,rfl⟩:=q;go_wp2_with fail
  refine v.o.mono ?_;rintro l w2 ⟨⟨u,rfl⟩,M⟩;have N:=M;go_wp2;go_ret
  exact⟨rfl,N⟩
theorem S7{N c d:Nat}:∀(k:Nat) (S:bP),wg N c d (k+1) S=nG N (wg N c d k S) c d
 |0,_=>rfl
 |k+1,S=>S7 k (nG N S c d)
theorem aaO{N c d:Nat}(a:c≠d):∀(k:Nat) (S:bP),(wg N c d k S).ms c d=(S.ms c d).drop k/\(wg N c d k S).sh=S.sh
 |0,_=>⟨by rfl,rfl⟩
 |k+1,S=>by
  rw[S7];obtain⟨f,b⟩:=aaO a k S;obtain⟨g,e⟩:=alc (N:=N) (S:=wg N c d k S) a;exact⟨by simp_all,e.trans b⟩
theorem S8{N c d:Nat}(a:c<N)(b:d<N)(e:c≠d):∀(k:Nat) {S:bP},gS N S->gS N (wg N c d k S)
 |0,_,h=>h
 |k+1,_,h=>S8 a b e k (h.S6 a b e)
theorem ale{N}(j:cL c a d h i N e f)(ok:gS N e)(g b:Nat)(q:g<N)(n:b<N)(v:g≠b):
  O 123 #[Z a,A g,A b] c fun l W=>l=.returned (.tuple #[A (if e.sh g b=true then((e.ms g b).length:Nat) else 0),A (if e.sh g b=true then 0 else 11)])/\jb a N d h i f.vl c W (if e.sh g b=true then wg N g b (e.ms g b).length e else e):=by
 have B:=Ct j g b q n v;obtain⟨tC,nz,gl,fB,_,_,_,_,w,C,cV⟩:=j.uT q n;by_cases r:e.sh g b=true
 ·rw[if_pos r,if_pos r,if_pos r];rw[r]at C;have jL:=aa r;have hlen:=ok.len g b q n;go_enter func123,ntmps123;go_wp2_with fail
  refine B.mono ?_;rintro l D ⟨⟨X,Y,s,rfl⟩,rfl⟩;rw[w]at s;obtain⟨rfl,rfl⟩:=s;go_wp2_with fail
  go_loopw [10] (fun m wr=>∃k:Nat,k<=(e.ms g b).length/\m=A k/\∃E F I L,oJ a N d h i E F I f.vl D wr (wg N g b k e) L) (fun m _=>(e.ms g b).length-(intOf m).toNat)
  case atStart=>exact⟨0,apZ _,rfl,d,h,i,f,j,c6.cJ (apY _ _),fun k M=>⟨M,rfl⟩,rfl⟩
  case round=>
   obtain⟨k,M,rfl,E,F,I,L,t⟩:=hrel;obtain⟨P,dS⟩:=aaO (N:=N) v k e;obtain⟨gL5,cL5,gl5,cl5,_,_,_,_,Q,s5,x⟩:=t.1.uT q n;rw[t.2.2.2,w]at Q;obtain⟨rfl,rfl⟩:=Q;obtain⟨NG,NH,BC,aaN,_⟩:=t.1.queue q n;rw[BC,P,aqA]at x;have y:=aa t;by_cases aE:k<(e.ms g b).length
   ·obtain⟨p,R,S⟩:∃p R,(wg N g b k e).ms g b=p::R:=by
     rw[P,arP aE];exact⟨_,_,rfl⟩
    have U:=S8 q n v k ok;obtain⟨z,BN⟩:∃z,z=(e.ms g b).length-k:=⟨_,rfl⟩;rw[<-BN]at x;have aoQ:(0:Int)<(z:Int):=by omega
    go_wp2_with fail
    refine(aaG t.1 g b q n v S (U.msg g b q n p (by rw[S];simp)) (U.wait b n)).mono ?_;rintro l w2 ⟨⟨u,rfl⟩,apA,S3,S4,x6,e9⟩;go_wp2;go_roundw
    case rel=>exact⟨k+1,by omega,by go_num,apA,S3,S4,x6,by rw[S7];exact y.o.trans e9⟩
    case measure=>simp[intOf];omega
   have dZ:k=(e.ms g b).length:=by omega
   rw[show(e.ms g b).length-k=0 by omega]at x;go_wp2;go_ret2
   rw[dZ]at y⊢;exact⟨rfl,y.o.to⟩
 rw[if_neg r,if_neg r,if_neg r];have j6:e.sh g b=false:=by simp_all
 rw[j6]at C;go_enter func123,ntmps123;go_wp2_with fail
 refine B.mono ?_;rintro l D ⟨⟨X,Y,s,rfl⟩,rfl⟩;rw[w]at s;obtain⟨rfl,rfl⟩:=s;go_wp2;go_ret2
 exact⟨rfl,j.left (apY _ _)⟩
def hQ (N g:Nat):Value:=.slice (some (H g)) N N
structure dF where
 gH:Nat
 kb:Nat
 qR:Value
 ia:List Nat
variable {l:List dF}{r:dF}
def dF.ints (x:dF):List Nat:=x.gH::x.kb::x.ia
def dF.ee (N:Nat) (x:dF):x7:=⟨hQ N x.gH,.slice none 0 0,hQ N x.kb,x.qR⟩
def aaP (B:Nat) (w:World) (v:Value) (N:Nat):Prop:=w.ownsRow B 249 2 v N ((List.range N).flatMap fun _=>[Value.bool false,.slice none 0 0])
theorem alf(N:Nat):((List.range N).flatMap fun _=>[Value.bool false,Value.slice none 0 0]).length=N*2:=by
 induction N with
 |zero=>rfl
 |succ n ih=>rw[aqI,aqG,ap4,ih];simp;omega
theorem alg(b:a<=4):(zn a).toList=(List.range a).flatMap fun _=>[Value.bool false,.slice none 0 0]:=by
 rcases(show a=0\/a=1\/a=2\/a=3\/a=4 by omega) with rfl|rfl|rfl|rfl|rfl<;>simp[zn,madeCells,Value.cells,aqI,aqG]
theorem alh(h:c.heap[b]?=some (.cells (zn a) 249 (0,0)))(f:n<=b)(g:a<=4):aaP n c (hQ a b) a:=by
 have e:=alg g;have d:=alf a;have i:(zn a).size=a*2:=by rw[<-asv,e,d]
 refine⟨d,.inr ⟨b,a,zn a,rfl,f,h,apX _,by unfold maxLen;omega,by omega,?_⟩⟩;rw[e,aql (by omega)]
def ali (N B:Nat) (wr wc:World) (p:Value):Prop:=
 ∃c a b,p=Z c/\wc.heap[c]?=some (.cells #[hQ N a,.slice none 0 0,hQ N b,.slice none 0 0] 225 (0,0))/\wr.heap.size<=c/\zeros B wc (hQ N a) N/\zeros B wc (hQ N b) N/\wr.heap.size<=a/\wr.heap.size<=b/\a≠b/\J wr wc
def aaQ (B N:Nat) (a b:World) (e:Nat) (h i:Value) (k:Nat):Prop:=
 ∃f c,(∃d:List Nat,c=d.map (hQ N)/\d.Nodup/\∀g∈d,a.heap.size<=g/\zeros B b (hQ N g) N)/\b.heap[e]?=some (.cells #[h,.slice none 0 0,i,f] 225 (0,0))/\c.length=k/\xZ a.heap.size b 24 f c/\
  b.os=a.os/\b.tape=a.tape/\b.output=a.output/\a.heap.size<=b.heap.size/\∀g,g<a.heap.size->g≠e->b.heap[g]?=a.heap[g]?
theorem alj{wr W:World}{y:Nat}(Q:c.heap.size<=wr.heap.size)(R:n<=c.heap.size)(D:a<=4)(x:xZ c.heap.size wr 24 m u)(l:∃p:List Nat,u=p.map (hQ a)/\p.Nodup/\∀g∈p,c.heap.size<=g/\zeros n wr (hQ a g) a)(t:wr.os=c.os/\wr.tape=c.tape/\wr.output=c.output/\∀g,g<c.heap.size->g≠b->wr.heap[g]?=c.heap[g]?)(i:J wr W)(S:y=wr.heap.size)(E:W.heap[y]?=some (.cells (pN a) 3 (0,0)))(z:s.ownsRow c.heap.size 24 1 j (u.length+1) ((u++[hQ a y]).flatMap one))(o:W.grownBy s m.ownBlock)(F:s.heap[b]?=some (.cells #[q,.slice none 0 0,v,m] 225 (0,0))):
  aaQ n a c (s.setCell (K b 3) j) b q v (u.length+1):=by
 obtain⟨p,U,l⟩:=l;have I:j.ownBlock≠some b:=fun e=>by obtain⟨X,Y⟩:=bq z e;simp_all
 have stay:∀(g:Nat) (r:Array Value),W.heap[g]?=some (.cells r 3 (0,0))->(s.setCell (K b 3) j).heap[g]?=some (.cells r 3 (0,0)):=fun g r w=>by
  have h1:=o.block g (aN w) fun e=>by
   obtain⟨bc,L⟩:=bq x e.symm;have :=bj L i
   simp_all
  rw[aqr _ _ _ _ (show g≠b from fun e=>by
   simp_all)]
  simp_all
 refine⟨j,u++[hQ a y],⟨p++[y],by simp_all,?_,fun g k=> ?_⟩,Ls F,by simp,?_,?_,?_,?_,?_,?_⟩
 ·refine aqF.2 ⟨l.1,by simp,fun d M h B e=> ?_⟩;rw[ap9]at B;subst B e;have :=(ap1 (l.2 d M).2 d rfl).2;omega
 ·rcases ap7.1 k with k|k
  ·refine⟨(l.2 g k).1,ca (l.2 g k).2 fun f N=> ?_⟩;obtain⟨r,w⟩:=bq (l.2 g k).2 N;rw[stay f r (bj w i),w]
  rw[ap9]at k;subst k;exact⟨by omega,Pf (stay g _ E) (by omega) D⟩
 ·unfold xZ;rw[ap4];exact iV z I _
 ·have :=o.os;simp[World.setCell];rw[this,i.os,t.1]
 ·have :=o.tape;simp[World.setCell];rw[this,i.tape,t.2.1]
 ·have :=o.output;simp[World.setCell];rw[this,i.output,t.2.2.1]
 ·have :=o.size;have :=i.size;simp[World.setCell];omega
 intro g P C;rw[aqr _ _ _ _ C,o.block g (by have :=i.size;omega) (fun e=>by have :=(ap1 x g e.symm).1;omega),i.block g (by omega),t.2.2.2 g P C]
structure fJ (w wr:World) (N r:Nat) (aS aJ aU:Value) (cl:List dF) (gl:List Nat):Prop where
 at':sS w wr N r aS aJ aU (cl.map (dF.ee N)) (gl.map (hQ N))
 b5:∀x∈cl,zeros w.heap.size wr (hQ N x.kb) N
 ck:∀x∈cl,xZ w.heap.size wr 24 x.qR (x.ia.map (hQ N))/\x.ia.length=N/\∀g∈x.ia,zeros w.heap.size wr (hQ N g) N
 jl:(cl.flatMap dF.ints).Nodup
 hl:∀g∈gl,aaP w.heap.size wr (hQ N g) N
 NJ:gl.Nodup
theorem fJ.ints{w wr N r d e f c i}(h:fJ w wr N r d e f c i):∀g∈c.flatMap dF.ints,zeros w.heap.size wr (hQ N g) N:=by
 intro g a;obtain⟨x,b,a⟩:=aqq.1 a;rcases aqb.1 a with rfl|a
 ·exact h.at'.hH (dF.ee N x) (ap5.2 ⟨x,b,rfl⟩)
 rcases aqb.1 a with rfl|a
 ·exact h.b5 x b
 exact(h.ck x b).2.2 g a
theorem fJ.ae{w wr N r d e f i j}{W:World}(h:fJ w wr N r d e f i j)(a:J wr W):fJ w W N r d e f i j:=
 ⟨h.at'.ae a,fun x b=>c7 (h.b5 x b) a,fun x b=>⟨c7 (h.ck x b).1 a,(h.ck x b).2.1,fun g c=>c7 ((h.ck x b).2.2 g c) a⟩,h.jl,fun g c=>c7 (h.hl g c) a,h.NJ⟩
theorem fJ.copy{w wr N r n p q f s}{W l:World}{n0:Nat}(h:fJ w wr N r n p q f s)(i:J wr W){x:dF}{j:Value}(z:l.ownsRow w.heap.size 225 4 j ((f.map (dF.ee N)).length+1) ((f.map (dF.ee N)++[dF.ee N x]).flatMap ee))(d:W.grownBy l p.ownBlock)(B:zeros w.heap.size wr (hQ N x.gH) N)(C:zeros w.heap.size wr (hQ N x.kb) N)(m:xZ w.heap.size wr 24 x.qR (x.ia.map (hQ N))/\x.ia.length=N/\∀g∈x.ia,zeros w.heap.size wr (hQ N g) N)(D:x.ints.Nodup)(t:∀g∈x.ints,n0<=g)(v:∀g∈f.flatMap dF.ints,g<n0):fJ w (l.setCell (K r 2) j) N r n j q (f++[x]) s:=by
 obtain⟨rows,M,P⟩:=h.at'.rest (u:=j) (o:=2) i h.at'.fF d (apX _);refine⟨?_,fun y c=> ?_,fun y c=> ?_,?_,fun g d=>rows (h.hl g d) (by decide) (by decide),h.NJ⟩
 ·rw[aqi];refine h.at'.copy i z d B fun y c e=> ?_
  obtain⟨k,E,rfl⟩:=ap5.1 c;have Q:k.gH=x.gH:=by
   have :some k.gH=some x.gH:=e
   simp_all
  have F:=v k.gH (aqq.2 ⟨k,E,by unfold dF.ints;simp⟩);have I:=t x.gH (by unfold dF.ints;simp);omega
 ·rcases ap7.1 c with c|c
  ·exact rows (h.b5 y c) (by decide) (by decide)
  rw[ap9]at c;subst c;exact rows C (by decide) (by decide)
 ·rcases ap7.1 c with c|c
  ·exact⟨rows (h.ck y c).1 (by decide) (by decide),(h.ck y c).2.1,fun g d=>rows ((h.ck y c).2.2 g d) (by decide) (by decide)⟩
  rw[ap9]at c;subst c;exact⟨rows m.1 (by decide) (by decide),m.2.1,fun g d=>rows (m.2.2 g d) (by decide) (by decide)⟩
 rw[aqG,aqm,ash,aqB];refine aqF.2 ⟨h.jl,D,fun a L b i e=> ?_⟩;have F:=v a L;have I:=t b i;omega
theorem fJ.link{w wr N r k l m n j}{W i:World}(h:fJ w wr N r k l m n j)(v:N<=4)(p:J wr W){y:Nat}{d:Value}(z:y=wr.heap.size)(q:W.heap[y]?=some (.cells (zn N) 249 (0,0)))(B:i.ownsRow w.heap.size 226 1 d ((j.map (hQ N)).length+1) ((j.map (hQ N)++[hQ N y]).flatMap one))(c:W.grownBy i m.ownBlock):
  fJ w (i.setCell (K r 3) d) N r k l d n (j++[y]):=by
 obtain⟨rows,s,I⟩:=h.at'.rest (u:=d) (o:=3) p h.at'.cv c (apX _);have s:=s (by decide);have C:w.heap.size<=y:=by rw[z];exact h.at'.below.size
 have D:(i.setCell (K r 3) d).heap[y]?=some (.cells (zn N) 249 (0,0)):=by
  have E:=c.block y (aN q) fun e=>by
   have :=(ap1 h.at'.cv y e.symm).2;omega
  rw[aqr _ _ _ _ (show y≠r from fun e=>by simp_all),E];exact q
 refine⟨?_,fun x f=>rows (h.b5 x f) (by decide) (by decide),fun x f=>⟨rows (h.ck x f).1 (by decide) (by decide),(h.ck x f).2.1,fun g c=>rows ((h.ck x f).2.2 g c) (by decide) (by decide)⟩,h.jl,fun g c=> ?_,?_⟩
 ·rw[aqi];exact h.at'.link p B c
 ·rcases ap7.1 c with c|c
  ·exact rows (h.hl g c) (by decide) (by decide)
  rw[ap9]at c;subst c;exact alh D C v
 refine aqF.2 ⟨h.NJ,by simp,fun a F b t e=> ?_⟩;rw[ap9]at t;subst t e;have :=(ap1 (h.hl a F) a rfl).2;omega
theorem fJ.t{w wr r}{cs:List x7}(h:fJ w wr a r j m q l k)(b:cs=l.map (dF.ee a))(c:u=k.map (hQ a)):sS w wr a r j m q cs u:=by
 subst b c;exact h.at'
theorem dF.all{P:Nat->Prop}(d:P a)(e:P b)(f:∀g∈k,P g):∀g∈dF.ints ⟨a,b,j,k⟩,P g:=by
 intro g c;rcases aqb.1 c with rfl|c
 ·exact d
 rcases aqb.1 c with rfl|c
 ·exact e
 simp_all
theorem dF.nodup{n:Nat}(h:a≠b)(f:k.Nodup)(d:∀g∈k,n<=g)(i:a<n)(l:b<n):(dF.ints ⟨a,b,j,k⟩).Nodup:=by
 show(a::b::k).Nodup;refine aqw.2 ⟨fun c=> ?_,aqw.2 ⟨fun c=> ?_,f⟩⟩
 ·rcases aqb.1 c with e|c
  ·omega
  have :=d _ c;omega
 have :=d _ c;omega
theorem alk(N s:Nat)(h1:1<=N)(h2:N<=4)(al:1<=s)(aL:s<=50)(w:World):
  O 93 #[.int .i64 N,.int .i64 s] w fun e w'=>∃r R S U d n,e=.returned (.tuple #[.pointer (some ⟨r,0,none⟩),.int .i64 0])/\fJ w w' N r R S U d n/\d.length=N/\n.length=N:=by
 obtain⟨apB,hiO,aaR,aaS,aaT⟩:=info_parts (P:=prog) (e:=255) (z:=.slice none 0 0) (size:=1) (bytes:=24) (by kernel_rfl);obtain⟨apV,Z3,aoR,aoS,aoT⟩:=info_parts (P:=prog) (e:=3) (z:=.int .i64 0) (size:=1) (bytes:=8) (by kernel_rfl);obtain⟨ob,hiL,aoU,aoV,aoW⟩:=info_parts (P:=prog) (e:=249) (z:=.agg #[.bool false,.slice none 0 0]) (size:=2) (bytes:=32) (by kernel_rfl);go_enter func93,ntmps93;go_wp2_with (at_make;go_must (refine wpList_make_full _ rfl (.tmp 25) (.tmp 25) 218 rfl w.heap.size 255 apB (.slice none 0 0) 1 underlying218 hiO aaR aaS _ _ _ _ N rfl rfl ?h1 ?h2 ?al ?aL ?b1 ?_;(case h1=>rfl);(case h2=>rfl);(case al=>rw[aaT];omega);(case aL=>unfold maxLen;omega);(case b1=>simp);intro w1 mg dj;have qb:=aa (aei mg);clear mg;have dO:=aa dj;clear dj))
 have ay:=aa (show Below w.heap.size w w1 from(apY _ w).grown dO.o (apX _) (fun k hk=>by cases hk));have HN0:Hq (sS w (w1.alloc (.cells #[.int .i64 N,.slice (some ⟨w.heap.size,0,none⟩) N N,.slice none 0 0,.slice none 0 0] 222)) N w1.heap.size (.slice (some ⟨w.heap.size,0,none⟩) N N) (.slice none 0 0) (.slice none 0 0) [] []):=
  ⟨bI _ _,ay.o.size,qb.o.alloc _,aqe _ _ _ _,fun x D=>by simp at D,List.Pairwise.nil,aqe _ _ _ _,ay.o.alloc ay.o.size _⟩
 generalize w1.heap.size=r at *;generalize Value.slice (some ⟨w.heap.size,0,none⟩) N N=R at *;clear hiO aaR aaS aaT qb dO ay;go_loopw [7] (fun i wr=>∃m:Nat,m<=N/\i=.int .i64 m/\∃S U E f d n,(fJ w wr N r R S U d n/\E=d.map (dF.ee N)/\f=n.map (hQ N))/\E.length=m/\f.length=m) (fun i _=>N-(intOf i).toNat)
 case atStart=>exact⟨0,apZ _,rfl,_,_,[],[],[],[],⟨⟨HN0.o,fun x D=>by simp at D,fun x D=>by simp at D,by simp,fun x D=>by simp at D,by simp⟩,rfl,rfl⟩,rfl,rfl⟩
 case round=>
  obtain⟨m,hm,rfl,S,U,E,f,d,n,⟨dX,gB,wL⟩,j0,ku⟩:=hrel;subst j0;have sL:=aa ku;clear ku;obtain⟨F,uA⟩:∃F,F=wr:=⟨_,rfl⟩;subst uA;have S9:=aa dX;have hJ:=aa (dX.t gB wL);clear dX;have Ta:=aa gB;clear gB;have lC:=aa wL;clear wL;by_cases aE:E.length<N
  ·have BZ:=hJ.o.below.size;go_wp2;go_cut [8] (fun p wc=>ali N w.heap.size F wc p)
   case first =>
    have Dw:=Pb N h2;go_region
    all_goals(go_wp2_with fail;go_meet)
    all_goals exact⟨_,_,_,rfl,(by first |exact Pc _ _ _ _|exact Pd _ _ _ _|exact Pe _ _ _ _),by omega,Pf (by first |exact Pc _ _ _ _|exact Pd _ _ _ _|exact Pe _ _ _ _) (by omega) h2,Pf (by first |exact Pc _ _ _ _|exact Pd _ _ _ _|exact Pe _ _ _ _) (by omega) h2,by omega,by omega,by omega,aej _ _ _ _⟩
   case rest=>
    obtain⟨mU,gH,kb,rfl,I,hcw,bM,hzt,W,aaU,mz,DD⟩:=hcut;have BX:=aa (And.intro W (And.intro aaU mz));clear W aaU mz;have HZT:=aa hzt;clear hzt;obtain⟨CA,A4⟩:∃v,v=hQ N gH:=⟨_,rfl⟩;obtain⟨Ay,NK⟩:∃v,v=hQ N kb:=⟨_,rfl⟩;rw[<-A4]at I bM;rw[<-NK]at I;have we:Ay.oneCell'=true:=by rw[NK];rfl
    have aaV:=aa (And.intro A4 NK);clear A4 NK;have Tb:=aa I;clear I;have u:=aa DD;clear DD;have Hs:=aa bM;clear bM;have gB:=aN Tb.o;have Dw:=Pb N h2;go_wp2;go_loopw [9] (fun i hf=>∃q:Nat,q<=N/\i=.int .i64 q/\aaQ w.heap.size N wc hf mU CA Ay q) (fun i _=>N-(intOf i).toNat)
    case atStart=>exact⟨0,apZ _,rfl,_,[],⟨[],rfl,arh,fun g a=>by simp at a⟩,Tb.o,rfl,aqe _ _ _ _,rfl,rfl,rfl,apX _,fun _ _ _=>rfl⟩
    case round=>
     obtain⟨q,ak,rfl,hk⟩:=hrel;obtain⟨qR,L,M,I,dZ,bu,iT,hta,hou,hsz,FX⟩:=hk;have HGK:=aa M;clear M;subst dZ;obtain⟨CB,BQ,rfl,Cn,FM,_⟩:=bm bu;have vJ:=aa bu;clear bu;have Q:=aa (And.intro iT (And.intro hta (And.intro hou FX)));clear iT hta hou FX;have j:=aa I;clear I;have rA:=aN j.o;by_cases BP:L.length<N
     ·have bZ:=sR j.o;have apg:=cG j.o;have O4:=aa (show some mU≠(Value.slice CB L.length BQ).ownBlock from fun e=>by obtain⟨Lg,zi⟩:=bq vJ.o e.symm;exact absurd (bK j.o zi) (by decide));go_wp2;go_region_law (refine xO one 1 24 44 24 (.slice none 0 0) (by kernel_rfl) underlying44 rfl (by omega) (fun _=>rfl) rfl (.tmp 45) (.tmp 48) rfl wc.heap.size (.slice CB L.length BQ) L (by simp[Act.eval,Act.put]) ?h1 (wr.heap.size+1) 1 (.slice (some ⟨wr.heap.size,0,none⟩) N N) (by simp[Act.eval,Act.put]) ?h2 ?al ?aL ?b1 ?e9 ?_;(case h1=>exact((vJ.o.alloc _).alloc _).drew);(case h2=>exact one_cell (by simp[go_sem]));(case al=>exact Vx);(case aL=>omega);(case b1=>unfold maxLen;omega);(case e9=>simp[World.drew];omega);intro v' X b c Y;have B:=aa (And.intro b c);obtain⟨a3,Hi,iD,_,_,_⟩:=bm b;subst iD;have oi:=aa (show X.heap[mU]?=some (.cells #[CA,.slice none 0 0,Ay,.slice CB L.length BQ] 225 (0,0)) by rw[c.block mU (by simp[World.drew];omega) O4.o];exact mq (mq j.o));have cb3:=sR oi.o;have cf3:=cG oi.o;clear b c Y)
      all_goals(try go_wp2)
      all_goals go_roundw
      all_goals first |(simp[intOf];omega)|exact⟨L.length+1,by omega,by go_num,alj (y:=wr.heap.size) hsz (ap0 BZ u.o.size) h2 vJ.o HGK.o Q.o ((((apY _ wr).alloc (apX _) _).alloc (by simp) _).drew) rfl (mq (bI wr _)) B.o.1 B.o.2 oi.o⟩
     have HQB:=aa (show Below F.heap.size F wr from⟨Q.o.1.trans u.o.os,Q.o.2.1.trans u.o.tape,Q.o.2.2.1.trans u.o.output,ap0 u.o.size hsz,fun g a=>by rw[Q.o.2.2.2 g (ap3 a u.o.size) (by omega),u.o.block g a]⟩);have l:=aa (hJ.o.ae HQB.o);have HZA:=aa (show ∀v,zeros w.heap.size wc v N->zeros w.heap.size wr v N from fun v aF=>ca aF (fun g a=>Q.o.2.2.2 g (ap1 aF g a).2 (by intro e;subst e;obtain⟨b7,cg⟩:=bq aF a;exact absurd (bK cg Tb.o) (by decide))));have HRQ:=aa (S9.o.ae HQB.o);obtain⟨GI,vcc,wH,_,_,_⟩:=bm l.o.fF;obtain⟨NL,NM,lv,_,_,_⟩:=bm l.o.cv;subst wH;subst lv;have RF:=Vy l.o.aH;have kR:=cG l.o.aH;have jx:=vh j.o;have q1:=vi j.o;have j1:=x5 j.o;have xQ:=sR j.o;have pJ:=aN l.o.aH;have DR:=aa (show some r≠(Value.slice GI E.length vcc).ownBlock from fun e=>by obtain⟨b7,cg⟩:=bq l.o.fF e.symm;exact absurd (bK l.o.aH cg) (by decide));obtain⟨av,hc,W,_,_,_⟩:=bm Hs.o;have PF:=aa W;clear W;have alm:=we;go_wp2;go_cut [] (fun wd=>∃v' x,fJ w wd N r R v' (.slice NL f.length NM) (d++[x]) n)
     case first =>
      go_region_law (refine xO ee 4 96 219 225 (.agg #[.slice none 0 0,.slice none 0 0,.slice none 0 0,.slice none 0 0]) (by kernel_rfl) underlying219 rfl (by omega) (fun _=>rfl) rfl (.tmp 55) (.tmp 57) rfl w.heap.size (.slice GI E.length vcc) E (by simp[Act.eval,Act.put]) ?h1 wr.heap.size 1 ⟨CA,.slice none 0 0,Ay,.slice CB L.length BQ⟩ (by simp[Act.eval,Act.put]) ?h2 ?al ?aL ?b1 ?e9 ?_;(case h1=>exact(l.o.fF.alloc _).drew);(case h2=>exact ael (bI wr _));(case al=>exact aek PF.o alm);(case aL=>omega);(case b1=>unfold maxLen;omega);(case e9=>simp[World.drew];omega);intro v' X b c Y;have B:=aa (And.intro b c);obtain⟨a3,Hi,iD,_,_,_⟩:=bm b;subst iD;have hy:=aa (show X.heap[r]?=_ from(c.block r (by simp[World.drew];omega) DR.o).trans (mq l.o.aH));have apC:=Vy hy.o;have rf3:=cG hy.o;clear b c Y)
      all_goals(go_wp2_with fail;go_meet)
      all_goals
       have aj:=Ta.o;have aw:=aaV.o.1;have cS:=aaV.o.2;obtain⟨ia,HU,mz,M⟩:=HGK.o;subst aj aw cS HU;have c9:ia.length=N:=by have :=BP;have :=ak;simp only[ap2]at *;omega
       have i1:=BX.o;have dC:=(ap1 Hs.o gH rfl).2;have cA:=(ap1 HZT.o kb rfl).2;have bx:=u.o.size;exact⟨_,⟨gH,kb,_,ia⟩,HRQ.o.copy (n0:=F.heap.size) (((apY _ wr).alloc (apX _) _).drew) B.o.1 B.o.2 (HZA.o _ Hs.o) (HZA.o _ HZT.o) ⟨gT vJ.o (by omega),c9,fun g a=>(M g a).2⟩ (dF.nodup i1.2.2 mz (fun g a=>(M g a).1) dC cA) (fun g a=>dF.all (P:=fun g=>F.heap.size<=g) i1.1 i1.2.1 (fun g a=>by have :=(M g a).1;omega) g a) (fun g a=>(ap1 (S9.o.ints g a) g rfl).2)⟩
     case rest=>
      obtain⟨v',x,cO⟩:=hcut;have C:=aa cO;clear cO;have QM:=aa (show xZ w.heap.size wc 226 (.slice NL f.length NM) f from by have :=C.o.at'.cv;rw[<-lC.o]at this;exact this);have d3:=sR C.o.at'.aH;have apW:=cG C.o.at'.aH;have hx:=aN C.o.at'.aH;have hdz:=C.o.at'.below.size;have zC:=aeh N h2;have DR:=aa (show some r≠(Value.slice NL f.length NM).ownBlock from fun e=>by obtain⟨b7,cg⟩:=bq QM.o e.symm;exact absurd (bK C.o.at'.aH cg) (by decide));clear RF kR jx q1 j1 xQ;go_wp2;go_region_law (refine xO one 1 24 220 226 (.slice none 0 0) (by kernel_rfl) underlying220 rfl (by omega) (fun _=>rfl) rfl (.tmp 65) (.tmp 68) rfl w.heap.size (.slice NL f.length NM) f (by simp[Act.eval,Act.put]) ?h1 (wc.heap.size+1) 1 (.slice (some ⟨wc.heap.size,0,none⟩) N N) (by simp[Act.eval,Act.put]) ?h2 ?al ?aL ?b1 ?e9 ?_;(case h1=>exact((arj QM.o _).alloc _).drew);(case h2=>exact one_cell (by simp[go_sem]));(case al=>exact Vx);(case aL=>have :=sL.o;omega);(case b1=>have :=sL.o;unfold maxLen;omega);(case e9=>simp[World.drew];omega);intro v'' X b c Y;have B:=aa (And.intro b c);obtain⟨a3,Hi,iD,_,_,_⟩:=bm b;subst iD;have hy:=aa (show X.heap[r]?=_ from(c.block r (by simp[World.drew];omega) DR.o).trans (mq (mq C.o.at'.aH)));have apC:=sR hy.o;have rf3:=cG hy.o;clear b c Y)
      all_goals(try go_wp2)
      all_goals go_roundw
      all_goals first |(simp[intOf];omega)|skip
      all_goals
       have cC:=sL.o;have aj:=Ta.o;have aw:=lC.o;subst aj aw;exact⟨(d.map (dF.ee N)).length+1,by omega,by go_num,_,_,_,_,_,_,⟨C.o.link h2 (y:=wc.heap.size) ((((apY _ wc).alloc (apX _) _).alloc (by simp) _).drew) rfl (mq (bI wc _)) B.o.1 B.o.2,rfl,rfl⟩,by simp,by simpa using cC⟩
  go_wp2;go_ret2
  have cC:=sL.o;have aj:=Ta.o;have aw:=lC.o;subst aj aw;simp only[ap2]at *;exact⟨r,R,S,U,d,n,rfl,S9.o,by omega,by omega⟩
theorem aaW {α:Type} {f:α->List Nat}:∀{l:List α},(l.flatMap f).Nodup->∀a∈l,(f a).Nodup
 |[],_,a,h=>by cases h
 |x::l,b,a,h=>by
  rw[aqm]at b;have :=aqF.1 b;rcases aqb.1 h with rfl|h
  ·simp_all
  exact aaW this.2.1 a h
theorem EL {α:Type} {f:α->List Nat}:∀{l:List α},(l.flatMap f).Nodup->∀(i j:Nat) (a b:α),l[i]?=some a->l[j]?=some b->i≠j->∀k∈f a,k∉f b
 |[],_,i,_,a,b,c,_,_,k,_=>by simp at c
 |x::l,h,i,j,a,b,c,d,o,k,e=>fun g=>by
  rw[aqm]at h;obtain⟨_,n,m⟩:=aqF.1 h
  match i,j with
  |0,0=>omega
  |0,j+1=>
   simp at c d;subst c;exact m k e k (aqq.2 ⟨b,arX d,g⟩) rfl
  |i+1,0=>
   simp at c d;subst d;exact m k g k (aqq.2 ⟨a,arX c,e⟩) rfl
  |i+1,j+1=>
   simp at c d;exact EL n i j a b c d (by omega) k e g
theorem aaX(h:zeros b c j a):kH 0 c j ((List.range a).map fun _=>0):=by
 have e:∀l:List Nat,(l.map fun _=>0).flatMap pw=l.map fun _=>A 0:=fun l=>by
  induction l with
  |nil=>rfl
  |cons d l ih=>rw[aqj,aqm,ih];rfl
 unfold kH;rw[e,ap2,aq6];exact gT h (apZ _)
theorem dF.hIn(y:dF):y.gH∈y.ints:=by unfold dF.ints;simp
theorem dF.NN(y:dF):y.kb∈y.ints:=by unfold dF.ints;simp
theorem dF.NP{g:Nat}(h:g∈r.ia):g∈r.ints:=by unfold dF.ints;simp[h]
theorem dF.aG(h:r.ints.Nodup):r.gH≠r.kb:=by
 unfold dF.ints at h
 simp_all
theorem dF.hk{y:dF}(h:y.ints.Nodup):y.gH∉y.ia:=by
 unfold dF.ints at h
 simp_all
theorem dF.apD(h:r.ints.Nodup):r.kb∉r.ia:=by
 unfold dF.ints at h
 simp_all
theorem dF.qG(h:r.ints.Nodup):r.ia.Nodup:=by
 unfold dF.ints at h
 simp_all
def AA:Value:=.slice none 0 0
def jG (N:Nat) (a:List dF) (c j:Nat):Value:=match a[c]? with |some y=>(match j with |0=>hQ N y.gH|1=>AA|2=>hQ N y.kb|_=>y.qR)|none=>AA
def xB (N:Nat) (a:List dF) (c d:Nat):Value:=match a[c]? with |some y=>(match y.ia[d]? with |some g=>hQ N g|none=>AA)|none=>AA
def yT (N:Nat) (a:List Nat) (i:Nat):Value:=match a[i]? with |some g=>hQ N g|none=>AA
def Td:bP:=⟨fun _=>[],fun _ _=>0,fun _=>[],fun _ _=>0,fun _ _ _=>0,fun _ _=>[],fun _ _=>false⟩
def ao9 (N:Nat) (b c d:Value) (a:List dF) (e:List Nat):ep:=⟨b,c,d,fun _=>AA,fun _=>[],jG N a,xB N a,yT N e,fun _ _=>AA,fun _ _=>[]⟩
def Te (r:Nat) (a b:Value) (c:List dF) (k:Nat):Prop:=k=r\/a.ownBlock=some k\/b.ownBlock=some k\/∃y∈c,k=y.gH
def apa (w a:World) (r:Nat) (b c:Value) (d:List dF) (k:Nat):Prop:=(w.heap.size<=k/\k<a.heap.size)/\¬Te r b c d k
theorem aln {α:Type} {f:α->List Value} {g:Nat->List Value} {l:List α} (h:∀c a,l[c]?=some a->g c=f a):(List.range l.length).flatMap g=l.flatMap f:=by
 have :∀k,k<=l.length->(List.range k).flatMap g=(l.take k).flatMap f:=by
  intro k b
  induction k with
  |zero=>simp
  |succ k ih=>
   rw[aqI,aqG,ih (by omega),aqp (by omega),aqG];simp[h k _ (aq2 (by omega))]
 simp_all
theorem aaY {α:Type} {f:α->Value} {g:Nat->Value} {l:List α} (h:∀c a,l[c]?=some a->g c=f a):(List.range l.length).map g=l.map f:=by
 apply aq9;intro c;by_cases b:c<l.length
 ·simp_all
 simp_all
theorem aaZ(l:List Value):l.flatMap one=l:=by
 induction l with
 |nil=>rfl
 |cons a l ih=>rw[aqm,ih];rfl
theorem fJ.get{c:List dF}(d:c.length=a)(h:b<a):∃y,c[b]?=some y/\y∈c/\jG a c b 0=hQ a y.gH/\jG a c b 1=AA/\jG a c b 2=hQ a y.kb/\jG a c b 3=y.qR:=by
 have e:=aq2 (l:=c) (i:=b) (by omega);exact⟨_,e,ap6 _,by simp only[jG,e],by simp only[jG,e],by simp only[jG,e],by simp only[jG,e]⟩
theorem fJ.JM{c:List dF}(f:c.length=a)(k:∀y∈c,y.ia.length=a)(h:n<a)(m:b<a):∃y g,c[n]?=some y/\y∈c/\y.ia[b]?=some g/\g∈y.ia/\xB a c n b=hQ a g:=by
 obtain⟨y,e,j,_⟩:=fJ.get f h;have d:=aq2 (l:=y.ia) (i:=b) (by simp_all);exact⟨y,_,e,j,d,ap6 _,by simp only[xB,e,d]⟩
theorem fJ.NQ(b:k.length=a){i:Nat}(h:i<a):∃g,k[i]?=some g/\g∈k/\yT a k i=hQ a g:=by
 have e:=aq2 (l:=k) (i:=i) (by omega);exact⟨_,e,ap6 _,by simp only[yT,e]⟩
theorem fJ.alo(h:fJ s c n b j m q l k){o:Array Value}{t:TypeId}(p:c.heap[a]?=some (.cells o t (0,0)))(r:t≠222)(u:t≠255)(v:t≠225)(d:t≠3\/∀y∈l,a≠y.gH):¬Te b j m l a:=by
 rintro(rfl|e|e|⟨y,f,rfl⟩)
 ·exact r (bK p h.at'.aH)
 ·obtain⟨g,i⟩:=bq h.at'.hI e
  simp_all
 ·obtain⟨g,i⟩:=bq h.at'.fF e
  simp_all
 rcases d with d|d
 ·obtain⟨g,i⟩:=bq (h.ints y.gH (aqq.2 ⟨y,f,y.hIn⟩)) rfl
  simp_all
 exact d y f rfl
theorem fJ.JN(h:fJ c s n b j m v l k){d g:Nat}{t:TypeId}(e:s.ownsRow c.heap.size t g q d u)(i:t≠222)(o:t≠255)(p:t≠225)(f:q.ownBlock=some a)(r:t≠3\/∀y∈l,a≠y.gH):apa c s b j m l a:=by
 obtain⟨x,w⟩:=bq e f;exact⟨ap1 e a f,h.alo w i o p r⟩
theorem fJ.alp{w}(h:fJ s c a b j m q w k)(D:w.length=a)(Y:k.length=a)(hN:a<=4):cL c b (Te b j m w) (apa s c b j m w) (fun _=>False) a Td (ao9 a j m q w k):=by
 have dZ:=fun y x=>(h.ck y x).2.1
 have NR:=aaW h.jl;have OY:∀{n:Nat} {y:dF},w[n]?=some y->∀z∈w,y.kb≠z.gH:=fun{n y} x z N e=>by
  obtain⟨E,C,I⟩:=List.getElem_of_mem N;have B:w[E]?=some z:=by rw[aq2 C,I]
  by_cases R:n=E
  ·subst R;obtain rfl:=aqP (x.symm.trans B);exact dF.aG (NR _ N) e.symm
  exact EL h.jl n E y z x B R y.kb y.NN (e▸z.hIn)
 have Lm:∀{n:Nat} {y:dF},w[n]?=some y->∀g∈y.ia,∀z∈w,g≠z.gH:=fun{n y} x g P z N e=>by
  obtain⟨E,C,I⟩:=List.getElem_of_mem N;have B:w[E]?=some z:=by rw[aq2 C,I]
  by_cases R:n=E
  ·subst R;obtain rfl:=aqP (x.symm.trans B);exact dF.hk (NR _ N) (e▸P)
  exact EL h.jl n E y z x B R g (dF.NP P) (e▸z.hIn)
 have aH:=aN h.at'.aH;have fe:(List.range a).flatMap (fun n=>[jG a w n 0,jG a w n 1,jG a w n 2,jG a w n 3])=(w.map (dF.ee a)).flatMap ee:=by
  rw[<-D];have :=aln (l:=w.map (dF.ee a)) (f:=ee) (g:=fun n=>[jG a w n 0,jG a w n 1,jG a w n 2,jG a w n 3]) (fun n t av=>by
   rw[ark]at av;cases x:w[n]? with
   |none=>rw[x]at av;simp at av
   |some y=>rw[x]at av;simp at av;subst av;simp only[jG,x];rfl)
  simp_all
 refine⟨⟨⟨h.at'.aH,hN,gT h.at'.hI (apZ _),fun i L=>⟨aqe _ _ _ _,fun o af=>(by cases af)⟩,?_,?_,fun n i D L=>apZ _,fun i L=>apZ _⟩,⟨fun i r _ _ _=>.inl rfl,?_⟩,fun i L=>rfl,.inl rfl,fun p v=>.inr (.inl v),fun p v=>.inr (.inr (.inl v)),fun i L p v=>(by cases v),fun n C p v=> ?_,fun i L o af=>(by cases af),fun p v=> ?_⟩,fun n C=> ?_,fun n C=> ?_,fun n C=> ?_,fun n d C W=> ?_,?_,fun i L=> ?_,fun i r L au=>h9.nil _ _ _,fun i r L au=>rfl,fun i r L au u hm=>(by cases hm),fun n C p v=> ?_,fun n C p v=> ?_,fun n C p v=> ?_,fun n d C W p v=> ?_,fun p v=> ?_,fun i L p v=> ?_,fun i r L au p v=>(by cases v),?_,?_,?_,?_,?_,fun i r lp Aq _ _ _ _ _ p v=>(by cases v),fun p v=>v.2,fun p v=>v.1.2,fun p v=>v.elim,fun p v=>v.elim,fun p v=>v.elim⟩
 ·rw[show(ao9 a j m q w k).cp=jG a w from rfl,fe];have :=gT h.at'.fF (apZ _);rw[ap2,D]at this;exact this
 ·intro n C;obtain⟨y,e,x,cC,_⟩:=fJ.get D C;show c.ownsRow 0 _ 1 (jG a w n 0) a _;rw[cC];exact gT (h.ints y.gH (aqq.2 ⟨y,x,y.hIn⟩)) (apZ _)
 ·intro n E F S U;obtain⟨y,e,x,cC,_⟩:=fJ.get D F;obtain⟨z,I,N,e0',_⟩:=fJ.get D S;show(jG a w n 0).ownBlock≠(jG a w E 0).ownBlock;rw[cC,e0'];intro B;have Q:y.gH=z.gH:=aqP B;exact EL h.jl n E y z e I U y.gH y.hIn (Q▸z.hIn)
 ·obtain⟨y,e,x,cC,_⟩:=fJ.get D C;change(jG a w n 0).ownBlock=some p at v;rw[cC]at v;exact .inr (.inr (.inr ⟨y,x,(aqP v).symm⟩))
 ·rcases v with rfl|e|e|⟨y,x,rfl⟩
  ·exact aH
  ·exact(ap1 h.at'.hI p e).2
  ·exact(ap1 h.at'.fF p e).2
  exact(ap1 (h.ints y.gH (aqq.2 ⟨y,x,y.hIn⟩)) _ rfl).2
 ·obtain⟨y,e,x,_,aj,_⟩:=fJ.get D C;show jE 0 c (jG a w n 1) [];rw[aj];exact aqe _ _ _ _
 ·obtain⟨y,e,x,_,_,B,_⟩:=fJ.get D C;show kH 0 c (jG a w n 2) _;rw[B];exact aaX (h.b5 y x)
 ·obtain⟨y,e,x,_,_,_,Q⟩:=fJ.get D C;show c.ownsRow 0 _ 1 (jG a w n 3) a ((List.range a).map (xB a w n));rw[Q];have F:=gT (h.ck y x).1 (apZ _);unfold xZ at F;rw[ap2,(h.ck y x).2.1,aaZ]at F;have iQ:=aaY (l:=y.ia) (f:=hQ a) (g:=xB a w n) (fun d g W=>by simp only[xB,e,W]);rw[(h.ck y x).2.1]at iQ;rw[iQ];exact F
 ·obtain⟨y,g,e,x,jr,P,B⟩:=fJ.JM D dZ C W;show kH 0 c (xB a w n d) _;rw[B];exact aaX ((h.ck y x).2.2 g P)
 ·have F:=gT h.at'.cv (apZ _);unfold xZ at F;rw[ap2,Y,aaZ]at F;have iQ:=aaY (l:=k) (f:=hQ a) (g:=yT a k) (fun d g W=>by simp only[yT,W]);rw[Y]at iQ;show c.ownsRow 0 _ 1 q a ((List.range a).map (yT a k));rw[iQ];exact F
 ·obtain⟨g,e,qI,B⟩:=fJ.NQ Y L;show c.ownsRow 0 _ 2 (yT a k i) a ((List.range a).flatMap fun _=>[Value.bool false,AA]);rw[B];exact gT (h.hl g qI) (apZ _)
 ·obtain⟨y,e,x,_,aj,_⟩:=fJ.get D C;change(jG a w n 1).ownBlock=some p at v;rw[aj]at v;cases v
 ·obtain⟨y,e,x,_,_,B,_⟩:=fJ.get D C;change(jG a w n 2).ownBlock=some p at v;rw[B]at v;exact h.JN (h.b5 y x) (by decide) (by decide) (by decide) v (.inr fun z N=>by obtain rfl:=aqP v;exact OY e z N)
 ·obtain⟨y,e,x,_,_,_,Q⟩:=fJ.get D C;change(jG a w n 3).ownBlock=some p at v;rw[Q]at v;exact h.JN (h.ck y x).1 (by decide) (by decide) (by decide) v (.inl (by decide))
 ·obtain⟨y,g,e,x,jr,P,B⟩:=fJ.JM D dZ C W;change(xB a w n d).ownBlock=some p at v;rw[B]at v;exact h.JN ((h.ck y x).2.2 g P) (by decide) (by decide) (by decide) v (.inr fun z N=>by obtain rfl:=aqP v;exact Lm e _ P z N)
 ·exact h.JN h.at'.cv (by decide) (by decide) (by decide) v (.inl (by decide))
 ·obtain⟨g,e,qI,B⟩:=fJ.NQ Y L;change(yT a k i).ownBlock=some p at v;rw[B]at v;exact h.JN (h.hl g qI) (by decide) (by decide) (by decide) v (.inl (by decide))
 ·intro n E F S U p v;obtain⟨y,e,x,_,aj,_⟩:=fJ.get D F;change(jG a w n 1).ownBlock=some p at v;rw[aj]at v;cases v
 ·intro n d E ch F S al aL U p v M;obtain⟨y,g,e,x,jr,P,B⟩:=fJ.JM D dZ F S;obtain⟨z,g',I,N,alq,alr,X⟩:=fJ.JM D dZ al aL;change(xB a w n d).ownBlock=some p at v;change(xB a w E ch).ownBlock=some p at M;rw[B]at v;rw[X]at M;obtain rfl:=aqP v;obtain rfl:=aqP M;by_cases R:n=E
  ·subst R;obtain rfl:=aqP (e.symm.trans I);have hdd:=U.elim (fun h=>absurd rfl h) id;exact hdd ((List.getElem?_inj (by rw[dZ y x];exact S) (dF.qG (NR y x))).1 (jr.trans alq.symm))
  exact EL h.jl n E y z e I R _ (dF.NP P) (dF.NP alr)
 ·intro n E F S U p v M;obtain⟨y,e,x,_,_,B,_⟩:=fJ.get D F;obtain⟨z,I,N,_,_,X,_⟩:=fJ.get D S;change(jG a w n 2).ownBlock=some p at v;change(jG a w E 2).ownBlock=some p at M;rw[B]at v;rw[X]at M;obtain rfl:=aqP v;have Q:z.kb=y.kb:=aqP M;exact EL h.jl n E y z e I U _ y.NN (Q▸z.NN)
 ·intro n d E F S al p v M;obtain⟨y,g,e,x,jr,P,B⟩:=fJ.JM D dZ F S;obtain⟨z,I,N,_,_,X,_⟩:=fJ.get D al;change(xB a w n d).ownBlock=some p at v;change(jG a w E 2).ownBlock=some p at M;rw[B]at v;rw[X]at M;obtain rfl:=aqP v;have Q:z.kb=g:=aqP M;by_cases R:n=E
  ·subst R;obtain rfl:=aqP (e.symm.trans I);exact dF.apD (NR y x) (Q▸P)
  exact EL h.jl n E y z e I R _ (dF.NP P) (Q▸z.NN)
 intro i r L au U p v M;obtain⟨g,e,qI,B⟩:=fJ.NQ Y L;obtain⟨g',I,aoX,X⟩:=fJ.NQ Y au;change(yT a k i).ownBlock=some p at v;change(yT a k r).ownBlock=some p at M;rw[B]at v;rw[X]at M;obtain rfl:=aqP v;have Q:g'=g:=aqP M;exact U ((List.getElem?_inj (by omega) h.NJ).1 (e.trans (by rw[I,Q])))
theorem als(N s:Nat)(f:1<=N)(d:N<=4)(g:1<=s)(h:s<=50)(w:World):
  O 93 #[A N,A s] w fun e c=>J w c/\∃r F L x,e=.returned (.tuple #[Z r,A 0])/\cL c r F L (fun _=>False) N Td x/\∀k,F k\/L k->w.heap.size<=k:=
 (alk N s f d g h w).mono fun e c ⟨r,n,o,p,q,t,i,a,j,l⟩=>⟨a.at'.below,r,_,_,_,i,a.alp j l d,fun k b=>by
  rcases b with b|b
  ·rcases b with rfl|e|e|⟨y,m,rfl⟩
   ·exact a.at'.hw
   ·exact(ap1 a.at'.hI k e).1
   ·exact(ap1 a.at'.fF k e).1
   exact(ap1 (a.ints y.gH (aqq.2 ⟨y,m,y.hIn⟩)) _ rfl).1
  exact b.1.1⟩
theorem CC{c b:Int}(h:¬lo a c b):¬R9 a c b:=by
 rintro⟨⟨d,e⟩,⟨f,g⟩,i⟩;exact h ⟨c.toNat,b.toNat,by omega,by omega,by omega,by omega,by omega⟩
theorem alu(l:cL c a d h i b e f)(g j:Int)(m:¬lo b g j):O 113 #[Z a,A g,A j] c fun k n=>k=.returned (A 9)/\n=c:=by
 go_enter func113,ntmps113;go_wp2_with fail
 refine(Ck l.ct.room g j (CC m)).mono ?_;rintro k o ⟨rfl,rfl⟩;go_wp2;go_ret
 simp
theorem alv(l:cL c a d h i b e f)(g j:Int)(m:¬lo b g j):O 114 #[Z a,A g,A j] c fun k n=>k=.returned (A 9)/\n=c:=by
 go_enter func114,ntmps114;go_wp2_with fail
 refine(Ck l.ct.room g j (CC m)).mono ?_;rintro k o ⟨rfl,rfl⟩;go_wp2;go_ret
 simp
theorem alw(l:cL c a d h i b e f)(g j:Int)(m:¬lo b g j):O 116 #[Z a,A g,A j] c fun k n=>k=.returned (.tuple #[A 0,A 9])/\n=c:=by
 go_enter func116,ntmps116;go_wp2_with fail
 refine(Ck l.ct.room g j (CC m)).mono ?_;rintro k o ⟨rfl,rfl⟩;go_wp2;go_ret2
 simp
theorem alx(l:cL c a d h i b e f)(g j:Int)(m:¬lo b g j):O 117 #[Z a,A g,A j] c fun k n=>k=.returned (A 9)/\n=c:=by
 go_enter func117,ntmps117;go_wp2_with fail
 refine(Ck l.ct.room g j (CC m)).mono ?_;rintro k o ⟨rfl,rfl⟩;go_wp2;go_ret
 simp
theorem aly(l:cL c a d h i b e f)(g j:Int)(m:¬lo b g j):O 118 #[Z a,A g,A j] c fun k n=>k=.returned (A 9)/\n=c:=by
 go_enter func118,ntmps118;go_wp2_with fail
 refine(Ck l.ct.room g j (CC m)).mono ?_;rintro k o ⟨rfl,rfl⟩;go_wp2;go_ret
 simp
theorem alz(l:cL c a d h i b e f)(g j:Int)(m:¬lo b g j):O 119 #[Z a,A g,A j] c fun k n=>k=.returned (A 9)/\n=c:=by
 go_enter func119,ntmps119;go_wp2_with fail
 refine(Ck l.ct.room g j (CC m)).mono ?_;rintro k o ⟨rfl,rfl⟩;go_wp2;go_ret
 simp
theorem alA(l:cL c a d h i b e f)(g j:Int)(m:¬lo b g j):O 121 #[Z a,A g,A j] c fun k n=>k=.returned (A 9)/\n=c:=by
 go_enter func121,ntmps121;go_wp2_with fail
 refine(Ck l.ct.room g j (CC m)).mono ?_;rintro k o ⟨rfl,rfl⟩;go_wp2;go_ret
 simp
theorem alB(l:cL c a d h i b e f)(g j:Int)(m:¬lo b g j):O 123 #[Z a,A g,A j] c fun k n=>k=.returned (.tuple #[A 0,A 9])/\n=c:=by
 go_enter func123,ntmps123;go_wp2_with fail
 refine(Ck l.ct.room g j (CC m)).mono ?_;rintro k o ⟨rfl,rfl⟩;go_wp2;go_ret2
 simp
end
section
open Go.RowKit Tryz
attribute [local go_sem ↓] Go.wp_at_zero Go.wp_at_succ
def aa0 (l:List (Nat×Nat)) (d:Nat):Nat:=(l.filter fun f=>f.1==d).length
end
end Go.Proofs.YtnkpogjiiohapaaGreatDoor
