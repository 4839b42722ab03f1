/- Our own text. -/
import Derived.Test.YtnkpogjiiohapaaGreatDoorA08
import Derived.Test.YtnkpogjiiohapaaGreatDoorA11
set_option linter.unusedSimpArgs false
set_option linter.unusedVariables false
namespace Go.Proofs.YtnkpogjiiohapaaGreatDoor
open Go.RowKit Tryz
variable {a m:PId}{b:List ba}{d:ba}{e:cN}{f q:ByteArray}{h:bu}{i:List PId}{j r s u:Nat}{k:cE}{l:eI}{n:List (PId×dS)}
def qe (t c:Int) (a:Bool):bu:=⟨(t,c),1,a,(0,0),⟨#[]⟩,(0,0),(0,0),0,(0,0),[]⟩
def tR (t c:Int) (x b:PId):bu:=⟨(t,c),2,false,x,⟨#[]⟩,(0,0),b,0,(0,0),[]⟩
def xN (kind t c:Int) (x:PId) (a:ByteArray) (n:Int) (b:PId) (d:List PId):bu:=⟨(t,c),kind,false,x,a,(0,0),(0,0),n,b,d⟩
def sP (kind t c:Int) (x y:PId) (n:Int) (a:PId) (b:List PId):bu:=⟨(t,c),kind,false,x,⟨#[]⟩,y,(0,0),n,a,b⟩
def tS (D:List ba) (t:Int) (b:Nat) (c:Int) (x:PId) (a:ByteArray) (n:Int):Except Int (List bu):=
 match lQ D x a with
 |.error m=>.error m
 |.ok d=>if b<60 then .ok [xN 3 (t+1) c x a n (0,0) (d.map (·.cD))] else .error 8
def tT (D:List ba) (t:Int) (b:Nat) (c:Int) (x:PId) (a:ByteArray) (d:Bool):Except Int (List bu):=
 match lQ D x a with
 |.error m=>.error m
 |.ok e=>if b<59 then .ok [qe (t+1) c d,xN 3 (t+2) c x a 0 (t+1,c) (e.map (·.cD))] else .error 8
def sQ (D:List ba) (t:Int) (d:Nat) (c:Int) (x:PId) (a:ByteArray):Except Int (List bu):=
 match lQ D x a with
 |.error m=>.error m
 |.ok b=>if b.length=0 then .error 6 else if d<60 then .ok [xN 4 (t+1) c x a 0 (0,0) (b.map (·.cD))] else .error 8
def sR (D:List ba) (t:Int) (a:Nat) (c:Int) (x:PId) (i n:Int):Except Int (List bu):=
 match iM D x with
 |.error m=>.error m
 |.ok l=>match jL l i with
  |none=>.error 7
  |some b=>if a<59 then .ok [tR (t+1) c x b,sP 3 (t+2) c x (t+1,c) n (0,0) []] else .error 8
def sS (D:List ba) (t:Int) (a:Nat) (c:Int) (x:PId) (i:Int) (d:Bool):Except Int (List bu):=
 match iM D x with
 |.error m=>.error m
 |.ok l=>match jL l i with
  |none=>.error 7
  |some b=>if a<58 then .ok [qe (t+1) c d,tR (t+2) c x b,sP 3 (t+3) c x (t+2,c) 0 (t+1,c) []] else .error 8
def CY (D:List ba) (x y:PId):List PId:=
 match oF D x true with
 |.error _=>[]
 |.ok k=>match D[k]? with |some o=>(fD o ⟨#[]⟩ y).map (·.cD)|none=>[]
def kE (D:List ba) (t:Int) (a:Nat) (c:Int) (x:PId) (i:Int) (kind n:Int):Except Int (List bu):=
 match iM D x with
 |.error m=>.error m
 |.ok l=>if i<0\/(l.length:Int)<=i then .error 7 else if a<60 then .ok [sP kind (t+1) c x (l.getD i.toNat (0,0)) n (0,0) (CY D x (l.getD i.toNat (0,0)))] else .error 8
theorem E5(t:Int):t+1+1=t+2:=by omega
theorem aeY(t:Int):t+1+1+1=t+3:=by omega
theorem VT{w t i d e f k y z l B C g m D E S}{q x:World}{h n:bw}(I:lz w r s d e f k l g m u S)(L:J w q)(M:gx q t r s d e f k l g m u S [h] y B D)(N:J t x)(P:gx x i r s d e f y B g D u (S++[h].map bw.p) [n] z C E){a b:Value}(Q:i.heap[j]?=some (.cells #[a,b] 36 (0,0)))(R:w.heap.size<=j)(U:h.dq.ownBlock≠some j)(W:n.dq.ownBlock≠some j)(c v:Value):
  gx w ((i.setCell (H j) c).setCell (K j 1) v) r s d e f k l g m u S [h,n] z C E:=by
 refine gx.res I (((M.before N).trans P).after L) Q R (fun o F=> ?_) c v;simp at F;rcases F with rfl|rfl
 ·exact U
 ·exact W
theorem aeZ{w x z k d e f l C D E m F I L g n M N P S}{t y B:World}{h i q:bw}(R:lz w r s d e f l m g n u S)(U:J w t)(W:gx t x r s d e f l m g n u S [h] C F M)(X:J x y)(Y:gx y z r s d e f C F g M u (S++[h].map bw.p) [i] D I N)(di:J z B)(ak:gx B k r s d e f D I g N u (S++[h].map bw.p++[i].map bw.p) [q] E L P){a b:Value}(ah:k.heap[j]?=some (.cells #[a,b] 36 (0,0)))(yP:w.heap.size<=j)(c4:h.dq.ownBlock≠some j)(cm:i.dq.ownBlock≠some j)(nD:q.dq.ownBlock≠some j)(c v:Value):
  gx w ((k.setCell (H j) c).setCell (K j 1) v) r s d e f l m g n u S [h,i,q] E L P:=by
 refine gx.res R (((W.before X).trans ((Y.before di).trans ak)).after U) ah yP (fun o Q=> ?_) c v;simp at Q;rcases Q with rfl|rfl|rfl
 ·exact c4
 ·exact cm
 ·exact nD
theorem key_inj(h:f.toList=q.toList):f=q:=by
 rw[<-arh,beq_toListBytes,h];exact beq_self_eq_true _
def bl (R:List ba) (x:PId):Option ba:=R.find? (iL x)
def mQ (h:cE):PId×dR:=(h.cD,valOf h)
theorem E6:iL a d=true↔d.id=a:=by
 unfold iL;rw[B6]
theorem Hl(h:bl b a=some d):d.id=a:=E6.1 (aqH h)
theorem AY(h:bl b a=some d):d∈b:=aqi h
theorem h6 {κ ν:Type} [DecidableEq κ] (x y:κ) (v:ν) (m:List (κ×ν)):bq y (cv x v m)=if y=x then some v else bq y m:=by
 induction m with
 |nil=>by_cases h:y=x<;>simp[cv,bq,h]
 |cons p m ih=>
  unfold cv;by_cases a:x=p.1
  ·rw[if_pos a]
   by_cases h:y=x
   ·simp[bq,h]
   ·have c:¬y=p.1:=a▸h
    simp[bq,h,c]
  ·rw[if_neg a]
   by_cases b:y=p.1
   ·have h:¬y=x:=fun e=>a (e▸b)
    simp[bq,b,ao5 a]
   ·have d:bq y (p::cv x v m)=bq y (cv x v m):=by simp[bq,b]
    have f:bq y (p::m)=bq y m:=by simp[bq,b]
    rw[d,f,ih]
theorem ae0 {κ ν:Type} [DecidableEq κ] {x:κ} {m:List (κ×ν)} (h:x∉m.map (·.1)):bq x m=none:=by
 unfold bq;rw[Option.map_eq_none_iff,aqp];intro p a;simp;intro e;exact h (e▸aoX.2 ⟨p,a,rfl⟩)
theorem E7 {κ ν:Type} [DecidableEq κ] {x:κ} {v:ν}:∀{m:List (κ×ν)},(m.map (·.1)).Nodup->(x,v)∈m->bq x m=some v
 |[],_,h=>by cases h
 |p::m,a,h=>by
  simp only[apb,apg]at a;rcases ao3.1 h with h|h
  ·subst h;simp[bq]
  ·have b:¬x=p.1:=fun e=>a.1 (e▸aoX.2 ⟨_,h,rfl⟩)
   have :=E7 a.2 h;simpa[bq,b]using this
theorem ae1 {κ ν:Type} [DecidableEq κ] {x:κ} {m a:List (κ×ν)} (b:m.Perm a) (c:(a.map (·.1)).Nodup):bq x m=bq x a:=by
 have d:(m.map (·.1)).Nodup:=(b.map (·.1)).nodup_iff.2 c;cases h:bq x a with
 |some v=>exact E7 d (b.mem_iff.2 (fQ h))
 |none=>
  cases e:bq x m with
  |none=>rfl
  |some v=>rw[E7 c (b.mem_iff.1 (fQ e))]at h;cases h
theorem VV {κ ν:Type} [DecidableEq κ] {x:κ} {v:ν}:∀{m:List (κ×ν)},x∉m.map (·.1)->cv x v m=m++[(x,v)]
 |[],_=>rfl
 |p::m,h=>by
  simp only[apb,ao3,not_or]at h;unfold cv;rw[if_neg h.1,VV h.2];rfl
theorem ae2 {α:Type} {p q:α->Bool} {f:α->α} {l:List α} {k:Nat} (b:l.findIdx? p=some k) (e:∀o,q (f o)=q o):(l.modify k f).find? q=match l.find? q with |none=>none|some o=>if l.findIdx? q=some k then some (f o) else some o:=by
 induction l generalizing k with
 |nil=>simp at b
 |cons a l ih=>
  rw[arw]at b;by_cases d:p a=true
  ·rw[if_pos d]at b
   cases b;simp only[arx,aqB,e,arw];cases g:q a
   ·simp
    cases l.find? q<;>simp
   ·simp
  ·rw[if_neg d]at b
   cases c:l.findIdx? p with
   |none=>rw[c]at b;cases b
   |some j=>
    rw[c]at b;cases b;simp only[ary,aqB,arw];cases g:q a
    ·rw[ih c]
     simp
    ·simp
theorem Hm {α:Type} {p:α->Bool} {l:List α}:cK p l<0↔l.find? p=none:=by
 unfold cK;rw[aqp];cases h:l.findIdx? p with
 |none=>rw[aqX]at h;simpa using h
 |some k=>
  simp only;constructor
  ·intro a;omega
  ·intro a
   obtain⟨b,c,_⟩:=aqc.1 h;exact absurd c (a _ (aoY b))
theorem E8 {α:Type} {p:α->Bool} {l:List α} (h:¬cK p l<0):l.findIdx? p=some (cK p l).toNat:=by
 unfold cK at *;cases a:l.findIdx? p with
 |none=>rw[a]at h;simp at h
 |some k=>simp
theorem ae3 {α:Type} {p q:α->Bool} {l:List α} {o:α} (c:l.findIdx? p=some j) (d:l.findIdx? q=some j) (b:l.find? p=some o):q o=true:=by
 obtain⟨e,f,g⟩:=aqc.1 c;obtain⟨_,h,_⟩:=aqc.1 d;have :l.find? p=some l[j]:=by
  rw[aqF];exact⟨f,j,e,rfl,fun a i=>by simpa using g a i⟩
 rw[this]at b;cases b;exact h
theorem Pb(p:bu)(o:ba):(e9 p o).id=o.id:=by
 unfold e9;split <;>split <;>rfl
theorem ae4(p:bu)(y:PId)(o:ba):iL y (e9 p o)=iL y o:=by unfold iL;rw[Pb]
theorem zj(f:h.kind≠1)(y:PId):bl (b0 b h) y=if y=h.object then(bl b y).map (e9 h) else bl b y:=by
 unfold b0;rw[if_neg f];by_cases a:cK (iL h.object) b<0
 ·rw[if_pos a]
  split
  ·rename_i e;subst e
   unfold bl;rw[Hm.1 a];rfl
  ·rfl
 ·rw[if_neg a]
  have c:=E8 a;unfold bl;rw[ae2 c (ae4 h y)];by_cases e:y=h.object
  ·subst e
   rw[if_pos rfl];cases b.find? (iL h.object) with
   |none=>rfl
   |some o=>simp[c]
  ·rw[if_neg e]
   cases d:b.find? (iL y) with
   |none=>rfl
   |some o=>
    simp only;rw[if_neg];intro g;have i:=ae3 g c d;have j:=aqH d;exact e ((E6.1 j).symm.trans (E6.1 i))
theorem wh(c:h.kind=1)(y:PId):bl (b0 b h) y=match bl b y with |some o=>some o|none=>if y=h.id then some ⟨h.id,h.list,[]⟩ else none:=by
 unfold b0 bl;rw[if_pos c,List.find?_append];cases b.find? (iL y) with
 |some o=>rfl
 |none=>
  by_cases a:y=h.id
  ·subst a;simp[iL,et]
  ·have :iL y ⟨h.id,h.list,[]⟩=false:=by
    cases d:iL y ⟨h.id,h.list,[]⟩
    ·rfl
    ·exact absurd (E6.1 d).symm a
   simp[this,a]
theorem oS{key:ByteArray}{x:PId}{s:bU}:eG key x s=true↔s.key=key/\s.id=x:=by
 unfold eG;rw[Bool.and_eq_true,B6,beq_iff_eq];exact⟨fun h=>⟨key_inj h.1,h.2⟩,fun h=>⟨by rw[h.1],h.2⟩⟩
def oT (a:ByteArray) (x:PId) (b:List PId) (kind:Int) (y:cE) (s:bU):bU:=if eG a x s then⟨s.key,s.id,hb b s.ad kind y⟩ else s
theorem K9{l:List bU}{v:Bool}{kind:Int}(n:l.Pairwise fun c b=>¬(c.key=b.key/\c.id=b.id)){s:bU}(q:s∈l)(h:eG f a s=true):kN l v f a i kind k=l.map (oT f a i kind k):=by
 unfold kN;have o:¬cK (eG f a) l<0:=fun r=>by
  rw[Hm,aqp]at r;exact r s q h
 rw[if_neg o];have e:=E8 o;generalize(cK (eG f a) l).toNat=d at e;clear o q h s
 induction l generalizing d with
 |nil=>simp at e
 |cons c l ih=>
  rw[apP]at n;rw[arw]at e;by_cases m:eG f a c=true
  ·rw[if_pos m]at e
   cases e;simp only[arx,apb];congr 1
   ·unfold oT;rw[if_pos m]
   ·symm
    refine(aqq (g:=id) fun b w=> ?_).trans (List.map_id l);show _=b;unfold oT;rw[if_neg];intro x;have t:=oS.1 m;have u:=oS.1 x;exact n.1 b w ⟨t.1.trans u.1.symm,t.2.trans u.2.symm⟩
  ·rw[if_neg m]at e
   cases p:l.findIdx? (eG f a) with
   |none=>rw[p]at e;cases e
   |some j=>
    rw[p]at e;cases e;simp only[ary,apb];rw[ih n.2 j p];congr 1;unfold oT;rw[if_neg m]
theorem Pc{l:List bU}{kind:Int}(h:∀s∈l,eG f a s=false):kN l false f a i kind k=l++[⟨f,(0,0),hb i [] kind k⟩]:=by
 unfold kN;rw[if_pos (Hm.2 (aqp.2 fun s b=>by rw[h s b];simp))];rfl
theorem La{kind:Int}(s:bU):(oT f a i kind k s).id=s.id:=by unfold oT;split <;>rfl
theorem Lb{kind:Int}(s:bU):(oT f a i kind k s).key=s.key:=by unfold oT;split <;>rfl
structure xQ (a7:List (PId×dS)) (x:PId) (o:ba) (aW:eI):Prop where
 list:aW.list=o.list
 keys:o.list=false->∀s∈o.ss,s.key≠⟨#[]⟩/\s.id=(0,0)
 CZ:o.list=false->(o.ss.map bU.key).Nodup
 E9:o.list=false->∀key,((bq key aW.ks).elim [] qL.aB).Perm ((fD o key (0,0)).map mQ)
 elems:o.list=true->∀s∈o.ss,s.key=⟨#[]⟩/\s.id≠(0,0)/\∃e,bq s.id a7=some e/\e.list=x/\e.aB.Perm (s.ad.map mQ)
 C0:o.list=true->(o.ss.map bU.id).Nodup
 chain:o.list=true->jZ a7 aW.first (o.ss.map bU.id)
structure eA (R:List ba) (D:cN):Prop where
 bg:∀x o,bl R x=some o->∃aW,bq x D.1=some aW/\xQ D.2 x o aW
 c7:∀x,bl R x=none->bq x D.1=none
 el:∀y e,bq y D.2=some e->∃o,bl R e.list=some o/\o.list=true/\y∈o.ss.map bU.id
theorem eA.root:eA c2 hZ:=by
 refine⟨fun x o h=> ?_,fun x h=> ?_,fun y e h=> ?_⟩
 ·have a:=Hl h
  unfold bl c2 at h;simp only[aqB,List.find?_nil]at h;split at h
  ·cases h
   simp at a;subst a;exact⟨⟨false,none,[],(0,0)⟩,by simp[hZ,bq],rfl,fun _ s b=>(by simp at b),fun _=>(by simp),fun _ c=>(by simp[bq,fD]),fun h=>(by cases h),fun h=>(by cases h),fun h=>(by cases h)⟩
  ·cases h
 ·unfold bl c2 at h
  simp only[aqB,List.find?_nil]at h;split at h
  ·cases h
  ·rename_i a
   have :¬x=(0,0):=fun e=>by subst e;simp[iL,et]at a
   simp[hZ,bq,this]
 ·simp[hZ,bq]at h
theorem jZ.put{b:List (PId×dS)}{y:PId}{e:dS}:∀{x:PId} {L:List PId},jZ b x L->y∉L->jZ (cv y e b) x L
 |_,[],h,_=>h
 |_,z::L,⟨c,d,f,g,i⟩,a=>by
  simp only[ao3,not_or]at a;exact⟨c,d,f,by rw[h6,if_neg (ao5 a.1)];exact g,i.put a.2⟩
theorem jZ.same{a:List (PId×dS)}{y:PId}{e e':dS}(b:bq y a=some e)(c:e'.next=e.next):∀{x:PId} {L:List PId},jZ a x L->jZ (cv y e' a) x L
 |_,[],h=>h
 |_,z::L,⟨f,g,k,d,i⟩=>by
  by_cases j:z=y
  ·subst j
   rw[b]at d;cases d;exact⟨f,g,e',by rw[h6,if_pos rfl],by rw[c];exact i.same b c⟩
  ·exact⟨f,g,k,by rw[h6,if_neg j];exact d,i.same b c⟩
theorem jZ.ins{j:List (PId×dS)}{b i x:PId}{e:dS}(n:bq b j=some e)(o:i≠(0,0))(p:b≠i):∀{g a:List PId} {f:PId},jZ j f (g++b::a)->i∉g++b::a->(g++b::a).Nodup->jZ (cv b {e with next :=i} (cv i ⟨x,e.next,none,[]⟩ j)) f (g++b::i::a)
 |[],a,f,⟨k,l,q,h,m⟩,c,d=>by
  rw[n]at h;cases h;simp only[apN,ao3,not_or]at c;simp only[apN,apg]at d;refine⟨k,l,{e with next :=i},by rw[h6,if_pos rfl],rfl,o,⟨x,e.next,none,[]⟩,by rw[h6,if_neg (ao5 p),h6,if_pos rfl],?_⟩;exact(m.put c.2).put d.1
 |z::g,a,f,⟨k,l,q,h,m⟩,c,d=>by
  simp only[apC,ao3,not_or]at c;simp only[apC,apg]at d;have r:z≠b:=fun e=>d.1 (by rw[e];simp)
  exact⟨k,l,q,by rw[h6,if_neg r,h6,if_neg (ao5 c.1)];exact h,m.ins n o p c.2 d.2⟩
structure Fit (R:List ba) (p:bu):Prop where
 kind:p.kind=1\/p.kind=2\/p.kind=3\/p.kind=4
 make:p.kind=1->bl R p.id=none
 lay:p.kind=2->p.id≠(0,0)/\(∀x o,bl R x=some o->p.id∉o.ss.map bU.id)/\∃o,bl R p.object=some o/\o.list=true/\(p.behind=(0,0)\/p.behind∈o.ss.map bU.id)
 val:p.kind=3\/p.kind=4->∃o,bl R p.object=some o/\((o.list=false/\p.key≠⟨#[]⟩/\p.element=(0,0))\/(o.list=true/\p.key=⟨#[]⟩/\p.element∈o.ss.map bU.id))/\∀h∈fD o p.key p.element,h.cD≠p.id
 obj:p.kind=3->∃o,bl R p.obj=some o
def Hn (p:bu):kS:=
 if p.kind=1 then .inl p.list else if p.kind=2 then .inr (.inl (p.object,p.behind)) else if p.kind=3 then .inr (.inr (.inl (p.object,p.key,p.element,(p.num,p.obj),p.old))) else .inr (.inr (.inr (p.object,p.key,p.element,p.old)))
def zk (p:bu) (n:Int):nP:=⟨p.id,n,Hn p⟩
theorem xQ.Pd{b}(h:xQ b a d l)(f:d.list=true->∀s∈d.ss,bq s.id n=bq s.id b)(g:d.list=true->jZ n l.first (d.ss.map bU.id)):xQ n a d l:=
 ⟨h.list,h.keys,h.CZ,h.E9,fun c s e=>by rw[f c s e];exact h.elems c s e,h.C0,g⟩
theorem eA.make(h:eA b e){p:bu}(f:p.kind=1)(i:bl b p.id=none):eA (b0 b p) (cv p.id ⟨p.list,none,[],(0,0)⟩ e.1,e.2):=by
 refine⟨fun x o c=> ?_,fun x c=> ?_,fun y a j=> ?_⟩
 ·rw[wh f]at c
  rw[h6];cases d:bl b x with
  |some k=>
   rw[d]at c;cases c;have l:¬x=p.id:=fun a=>by subst a;rw[i]at d;cases d
   rw[if_neg l];exact h.bg x o d
  |none=>
   rw[d]at c;simp only at c;split at c
   ·rename_i a
    cases c;rw[if_pos a];exact⟨_,rfl,rfl,fun _ s g=>(by cases g),fun _=>apT,fun _ key=>(by simp[bq,fD]),fun _ s g=>(by cases g),fun _=>apT,fun _=>rfl⟩
   ·cases c
 ·rw[wh f]at c
  rw[h6];cases d:bl b x with
  |some k=>rw[d]at c;cases c
  |none=>
   rw[d]at c;simp only at c;split at c
   ·cases c
   ·rename_i a
    rw[if_neg a];exact h.c7 x d
 ·obtain⟨o,m,n,q⟩:=h.el y a j
  exact⟨o,by rw[wh f,m],n,q⟩
theorem eA.elem(h:eA b e)(g:bl b m=some d)(i:d.list=true)(j:a∈d.ss.map bU.id):∃c s,bq a e.2=some c/\c.list=m/\s∈d.ss/\s.id=a/\s.key=⟨#[]⟩/\a≠(0,0)/\c.aB.Perm (s.ad.map mQ):=by
 obtain⟨r,_,k⟩:=h.bg m d g;obtain⟨s,f,rfl⟩:=aoX.1 j;obtain⟨l,n,c,o,p,q⟩:=k.elems i s f;exact⟨c,s,o,p,f,rfl,l,n,q⟩
theorem eA.one(h:eA b e){o o':ba}(f:bl b a=some o)(g:o.list=true)(i:bl b m=some o')(j:o'.list=true){y:PId}(k:y∈o.ss.map bU.id)(l:y∈o'.ss.map bU.id):a=m:=by
 obtain⟨c,_,n,p,_⟩:=h.elem f g k;obtain⟨r,_,d,q,_⟩:=h.elem i j l;rw[n]at d;cases d;exact p.symm.trans q
theorem eA.ae5(h:eA b e)(d:∀x o,bl b x=some o->a∉o.ss.map bU.id):bq a e.2=none:=by
 cases f:bq a e.2 with
 |none=>rfl
 |some c=>
  obtain⟨o,g,_,i⟩:=h.el a c f;exact absurd i (d _ o g)
theorem ae6{l:List bU}{i:PId}(g:l.findIdx? (eG ⟨#[]⟩ a)=some j):∃b c,l.map bU.id=b++a::c/\(lr l (j+1) (me ⟨#[]⟩ i)).map bU.id=b++a::i::c:=by
 obtain⟨d,h,_⟩:=aqc.1 g;have aa:=(oS.1 h).2;refine⟨(l.take j).map bU.id,(l.drop (j+1)).map bU.id,?_,?_⟩
 ·have e:l=l.take j++l[j]::l.drop (j+1):=by rw[<-aqK d,aqk]
  have f:=congrArg (List.map bU.id) e;rw[ao8,apb,aa]at f;exact f
 ·unfold lr
  rw[aph d,ao8,ao8,apb,apb,apU,aa,apf];rfl
theorem eA.lay{D}(c:eA b D)(hk:h.kind=2)(R:h.id≠(0,0))(S:∀x o,bl b x=some o->h.id∉o.ss.map bU.id){o:ba}(B:bl b h.object=some o)(g:o.list=true)(ab:h.behind=(0,0)\/h.behind∈o.ss.map bU.id):
  eA (b0 b h) (mj D h.object h.behind h.id):=by
 obtain⟨C,b3,u⟩:=c.bg _ o B;have ae7:C.list=true:=u.list.trans g;have c6:=c.ae5 S;have c3:h.kind≠1:=by omega
 have E:∀y,bl (b0 b h) y=if y=h.object then(bl b y).map (e9 h) else bl b y:=fun y=>zj c3 y
 have Ho:e9 h o=⟨o.id,o.list,oD o.ss h.behind h.id⟩:=by unfold e9;rw[if_pos hk,if_pos g]
 have v:bl (b0 b h) h.object=some ⟨o.id,o.list,oD o.ss h.behind h.id⟩:=by rw[E,if_pos rfl,B,apw,Ho]
 have aa:h.id∉o.ss.map bU.id:=S _ o B;unfold mj;rw[b3];dsimp only;rw[if_neg (by rw[ae7];simp)];by_cases L:h.behind=(0,0)
 ·rw[if_pos L]
  have w:oD o.ss h.behind h.id=me ⟨#[]⟩ h.id::o.ss:=by
   unfold oD;rw[L,if_pos (by simp[et])];simp[lr]
  have dY:∀y,y≠h.id->bq y (cv h.id ⟨h.object,C.first,none,[]⟩ D.2)=bq y D.2:=fun y F=>by rw[h6,if_neg F]
  refine⟨fun x r f=> ?_,fun x f=> ?_,fun y e F=> ?_⟩
  ·by_cases l:x=h.object
   ·subst l
    rw[v,w]at f;cases f;refine⟨{C with first :=h.id},by rw[h6,if_pos rfl],u.list,fun j=> ?_,fun j=> ?_,fun j=> ?_,fun _ s d=> ?_,fun _=> ?_,fun _=> ?_⟩
    ·rw[g]at j;cases j
    ·rw[g]at j;cases j
    ·rw[g]at j;cases j
    ·rcases ao3.1 d with rfl|d
     ·exact⟨rfl,R,_,by show bq h.id _=_;rw[h6,if_pos rfl],rfl,by simp[me]⟩
     ·obtain⟨m,p,e,n,aL⟩:=u.elems g s d
      exact⟨m,p,e,by rw[dY _ (fun e=>aa (e▸aoX.2 ⟨s,d,rfl⟩))];exact n,aL⟩
    ·show(h.id::o.ss.map bU.id).Nodup
     exact apg.2 ⟨aa,u.C0 g⟩
    ·show jZ _ h.id (h.id::o.ss.map bU.id)
     exact⟨rfl,R,_,by rw[h6,if_pos rfl],(u.chain g).put aa⟩
   ·rw[E,if_neg l]at f
    obtain⟨tU,m,p⟩:=c.bg x r f;have M:=S x r f;refine⟨tU,by rw[h6,if_neg l];exact m,p.Pd (fun _ s d=>dY _ (fun e=>M (e▸aoX.2 ⟨s,d,rfl⟩))) (fun z=>(p.chain z).put M)⟩
  ·have l:x≠h.object:=fun e=>by subst e;rw[v]at f;cases f
   rw[E,if_neg l]at f;show bq x (cv _ _ _)=none;rw[h6,if_neg l];exact c.c7 x f
  ·have t:bq y (cv h.id ⟨h.object,C.first,none,[]⟩ D.2)=some e:=F
   by_cases N:y=h.id
   ·subst N
    rw[h6,if_pos rfl]at t;cases t;exact⟨_,v,g,by rw[w];simp[me]⟩
   ·rw[dY y N]at t
    obtain⟨r,m,p,n⟩:=c.el y e t;by_cases l:e.list=h.object
    ·rw[l]at m⊢
     rw[B]at m;cases m;exact⟨_,v,g,by rw[w];simp;exact .inr (by simpa using n)⟩
    ·exact⟨r,by rw[E,if_neg l];exact m,p,n⟩
 ·rw[if_neg L]
  have xR:h.behind∈o.ss.map bU.id:=ab.resolve_left L;obtain⟨e,s0,U,dL,e4,C2,Pf,_,_⟩:=c.elem B g xR;rw[U];dsimp only;rw[if_pos dL];have Ao:h.behind≠h.id:=fun q=>aa (q▸xR)
  have sl:¬cK (eG ⟨#[]⟩ h.behind) o.ss<0:=fun j=>by
   rw[Hm,aqp]at j;exact j s0 e4 (oS.2 ⟨Pf,C2⟩)
  have w:oD o.ss h.behind h.id=lr o.ss ((cK (eG ⟨#[]⟩ h.behind) o.ss).toNat+1) (me ⟨#[]⟩ h.id):=by
   unfold oD;have :et h.behind.1 h.behind.2 0 0=false:=yx.2 L;rw[this,if_neg (by simp),if_neg sl]
  have Hs:=E8 sl;generalize(cK (eG ⟨#[]⟩ h.behind) o.ss).toNat=k at w Hs;obtain⟨W,X,cl,Y⟩:=ae6 (i:=h.id) Hs;have gS:∀s,s∈lr o.ss (k+1) (me ⟨#[]⟩ h.id)->s∈o.ss\/s=me ⟨#[]⟩ h.id:=by
   intro s d;unfold lr at d;rw[aoZ,ao3]at d;rcases d with d|d|d
   ·exact .inl (apx d)
   ·exact .inr d
   ·exact .inl (ap0 d)
  have lT:∀y,y≠h.id->∀q,bq y D.2=some q->∃yR,bq y (cv h.behind {e with next :=h.id} (cv h.id ⟨h.object,e.next,none,[]⟩ D.2))=some yR/\yR.list=q.list/\yR.aB=q.aB:=by
   intro y F q jd;rw[h6];by_cases I:y=h.behind
   ·rw[if_pos I]
    subst I;rw[U]at jd;cases jd;exact⟨_,rfl,rfl,rfl⟩
   ·rw[if_neg I,h6,if_neg F]
    exact⟨q,jd,rfl,rfl⟩
  have mK:jZ (cv h.behind {e with next :=h.id} (cv h.id ⟨h.object,e.next,none,[]⟩ D.2)) C.first (W++h.behind::h.id::X):=by
   have :=u.chain g;have P:=u.C0 g;rw[cl]at this aa P;exact this.ins U R Ao aa P
  refine⟨fun x r f=> ?_,fun x f=> ?_,fun y Q F=> ?_⟩
  ·by_cases l:x=h.object
   ·subst l
    rw[v,w]at f;cases f;refine⟨C,b3,u.list,fun j=> ?_,fun j=> ?_,fun j=> ?_,fun _ s d=> ?_,fun _=> ?_,fun _=> ?_⟩
    ·rw[g]at j;cases j
    ·rw[g]at j;cases j
    ·rw[g]at j;cases j
    ·rcases gS s d with d|rfl
     ·obtain⟨m,p,Q,n,aL,bW⟩:=u.elems g s d
      obtain⟨aw,eR,fF,tV⟩:=lT s.id (fun e=>aa (e▸aoX.2 ⟨s,d,rfl⟩)) Q n;exact⟨m,p,aw,eR,fF.trans aL,tV▸bW⟩
     ·exact⟨rfl,R,⟨h.object,e.next,none,[]⟩,by show bq h.id _=_;rw[h6,if_neg (ao5 Ao),h6,if_pos rfl],rfl,by simp[me]⟩
    ·show((lr o.ss (k+1) (me ⟨#[]⟩ h.id)).map bU.id).Nodup
     rw[Y];have P:=u.C0 g;rw[cl]at P aa;have :(W++h.behind::h.id::X).Perm (h.id::(W++h.behind::X)):=by
      have :=List.perm_middle (a:=h.id) (l₁:=W++[h.behind]) (l₂:=X);simpa using this
     rw[this.nodup_iff];exact apg.2 ⟨aa,P⟩
    ·show jZ _ C.first ((lr o.ss (k+1) (me ⟨#[]⟩ h.id)).map bU.id)
     rw[Y];exact mK
   ·rw[E,if_neg l]at f
    obtain⟨tU,m,p⟩:=c.bg x r f;have M:=S x r f;have vJ:r.list=true->h.behind∉r.ss.map bU.id:=fun z hm=>l (c.one f z B g hm xR)
    refine⟨tU,m,p.Pd (fun z s d=> ?_) (fun z=>((p.chain z).put M).put (vJ z))⟩;have hm:s.id∈r.ss.map bU.id:=aoX.2 ⟨s,d,rfl⟩;show bq s.id (cv _ _ (cv _ _ _))=_;rw[h6,if_neg (fun(e:s.id=h.behind)=>vJ z (e▸hm)),h6,if_neg (fun(e:s.id=h.id)=>M (e▸hm))]
  ·have l:x≠h.object:=fun e=>by subst e;rw[v]at f;cases f
   rw[E,if_neg l]at f;exact c.c7 x f
  ·have t:bq y (cv h.behind {e with next :=h.id} (cv h.id ⟨h.object,e.next,none,[]⟩ D.2))=some Q:=F
   by_cases N:y=h.id
   ·subst N
    rw[h6,if_neg (ao5 Ao),h6,if_pos rfl]at t;cases t;refine⟨_,v,g,?_⟩;rw[w];show h.id∈(lr o.ss (k+1) (me ⟨#[]⟩ h.id)).map bU.id;rw[Y];simp
   ·have hold:∃q,bq y D.2=some q/\q.list=Q.list:=by
     rw[h6]at t;by_cases I:y=h.behind
     ·rw[if_pos I]at t
      cases t;exact⟨e,I▸U,rfl⟩
     ·rw[if_neg I,h6,if_neg N]at t
      exact⟨Q,t,rfl⟩
    obtain⟨q,h0,h0'⟩:=hold;obtain⟨r,m,p,n⟩:=c.el y q h0;rw[<-h0'];by_cases l:q.list=h.object
    ·rw[l]at m⊢
     rw[B]at m;cases m;refine⟨_,v,g,?_⟩;rw[w];show y∈(lr o.ss (k+1) (me ⟨#[]⟩ h.id)).map bU.id;rw[Y];rw[cl]at n;simp only[aoZ,ao3]at n⊢;rcases n with n|n|n
     ·exact .inl n
     ·exact .inr (.inl n)
     ·exact .inr (.inr (.inr n))
    ·exact⟨r,by rw[E,if_neg l];exact m,p,n⟩
theorem ae8(a:List PId)(b:List cE):qR a (b.map mQ)=(unnamed a b).map mQ:=by
 unfold qR unnamed;rw[List.filter_map];congr 1;apply List.filter_congr;intro h _;by_cases c:h.cD∈a<;>simp[mQ,c]
theorem ae9{kind:Int}(s:bU):eG f a (oT q m i kind k s)=eG f a s:=by
 unfold eG;rw[La,Lb]
theorem afa{key:ByteArray}{x:PId}{old:List PId}{kind:Int}{y:cE}(o:d.ss.Pairwise fun a b=>¬(a.key=b.key/\a.id=b.id))(p:d.list=false->x=(0,0))(g:d.list=true->∃s∈d.ss,eG key x s=true)(c:ByteArray)(e:PId):
  fD ⟨d.id,d.list,kN d.ss d.list key x old kind y⟩ c e=if c=key/\e=x then hb old (fD d key x) kind y else fD d c e:=by
 by_cases f:∃s∈d.ss,eG key x s=true
 ·obtain⟨s,f,k⟩:=f
  unfold fD;rw[K9 o f k];simp only;rw[List.find?_map];have :(eG c e∘oT key x old kind y)=eG c e:=by funext s;exact ae9 s
  rw[this];cases i:d.ss.find? (eG c e) with
  |none=>
   simp only[aqt];rw[if_neg];rintro⟨rfl,rfl⟩;rw[aqp]at i;exact i s f k
  |some v=>
   simp only[apw];have l:=oS.1 (aqH i);by_cases g:c=key/\e=x
   ·obtain⟨rfl,rfl⟩:=g
    rw[if_pos ⟨rfl,rfl⟩,i];unfold oT;rw[if_pos (aqH i)]
   ·rw[if_neg g]
    unfold oT;rw[if_neg];intro q;have m:=oS.1 q;exact g ⟨l.1.symm.trans m.1,l.2.symm.trans m.2⟩
 ·have n:d.list=false:=by
   cases h:d.list
   ·rfl
   ·exact absurd (g h) f
  have r:=p n;subst r;have j:∀s∈d.ss,eG key (0,0) s=false:=fun s t=>by
   cases h:eG key (0,0) s
   ·rfl
   ·exact absurd ⟨s,t,h⟩ f
  have u:fD d key (0,0)=[]:=by
   unfold fD;rw[aqp.2 fun s f=>by rw[j s f];simp]
  rw[u,n,Pc j];unfold fD;simp only;rw[List.find?_append];by_cases g:c=key/\e=(0,0)
  ·obtain⟨rfl,rfl⟩:=g
   rw[aqp.2 fun s f=>by rw[j s f];simp];simp[eG,et]
  ·rw[if_neg g]
   cases i:d.ss.find? (eG c e) with
   |some s=>rfl
   |none=>
    have :eG c e ⟨key,(0,0),hb old [] kind y⟩=false:=by
     cases h:eG c e ⟨key,(0,0),hb old [] kind y⟩
     ·rfl
     ·have :=oS.1 h
      exact absurd ⟨this.1.symm,this.2.symm⟩ g
    simp[this]
theorem xQ.apart(h:xQ n a d l):d.ss.Pairwise fun c b=>¬(c.key=b.key/\c.id=b.id):=by
 cases g:d.list
 ·have :=apB.1 (h.CZ g)
  exact this.imp fun e f=>e f.1
 ·have :=apB.1 (h.C0 g)
  exact this.imp fun e f=>e f.2
theorem xQ.Ht(h:xQ n a d l){s:bU}(g:s∈d.ss){key:ByteArray}{y:PId}(k:eG key y s=true):fD d key y=s.ad:=by
 unfold fD;cases c:d.ss.find? (eG key y) with
 |none=>rw[aqp]at c;exact absurd k (c s g)
 |some q=>
  have r:=aqi c;have e:=oS.1 (aqH c);have f:=oS.1 k;have :q=s:=by
   have m:=h.apart;rcases apl.1 r with⟨i,o,rfl⟩;rcases apl.1 g with⟨j,p,rfl⟩;rcases Nat.lt_trichotomy i j with b|b|b
   ·exact absurd ⟨e.1.trans f.1.symm,e.2.trans f.2.symm⟩ (apM.1 m i j o p b)
   ·subst b;rfl
   ·exact absurd ⟨f.1.trans e.1.symm,f.2.trans e.2.symm⟩ (apM.1 m j i p o b)
  rw[this]
theorem eA.zl(h:eA b e)(n:bl b a=some d)(g:d.list=false)(i:f≠⟨#[]⟩)(y:PId):lA e.1 e.2 a f y=true/\(eY e.1 e.2 a f y).aB.Perm ((fD d f (0,0)).map mQ):=by
 obtain⟨o,j,k⟩:=h.bg _ d n;have l:lA e.1 e.2 a f y=true:=by
  unfold lA nh;rw[if_neg i,j];simp[k.list,g]
 refine⟨l,?_⟩;have :=k.E9 g f;unfold eY;rw[if_pos l,if_neg i,j];dsimp only;cases m:bq f o.ks with
 |none=>rw[m]at this;exact this
 |some c=>rw[m]at this;exact this
theorem eA.Fa(h:eA b e)(c:bl b m=some d)(i:d.list=true)(j:a∈d.ss.map bU.id):lA e.1 e.2 m ⟨#[]⟩ a=true/\(eY e.1 e.2 m ⟨#[]⟩ a).aB.Perm ((fD d ⟨#[]⟩ a).map mQ):=by
 obtain⟨r,s,f,k,l,n,o,_,p⟩:=h.elem c i j;obtain⟨t,u,q⟩:=h.bg _ d c;have g:lA e.1 e.2 m ⟨#[]⟩ a=true:=by
  unfold lA;rw[if_pos rfl,f];simp[k]
 refine⟨g,?_⟩;unfold eY;rw[if_pos g,if_pos rfl,f,q.Ht l (oS.2 ⟨o,n⟩)];exact p
theorem eA.afb(a:eA b e)(hk:h.kind=3\/h.kind=4)(w:bl b h.object=some d)(f:d.list=false)(M:h.key≠⟨#[]⟩)(r:h.element=(0,0))(R:bq h.object e.1=some l)(S:(l.ks.map (·.1)).Nodup){v:Option Nat}{z:List (PId×dR)}{B:List (ByteArray×qL)}(U:B.Perm l.ks)(N:z.Perm ((hb h.old (fD d h.key h.element) h.kind h.held).map mQ)):
  eA (b0 b h) (cv h.object {l with fE:=some j,ks:=cv h.key ⟨v,z⟩ B} e.1,e.2):=by
 obtain⟨P,Q,i⟩:=a.bg _ d w;rw[R]at Q;cases Q;have W:h.kind≠1:=by omega
 have X:h.kind≠2:=by omega
 have t:∀y,bl (b0 b h) y=if y=h.object then(bl b y).map (e9 h) else bl b y:=fun y=>zj W y
 have Y:e9 h d=⟨d.id,d.list,kN d.ss d.list h.key h.element h.old h.kind h.held⟩:=by
  unfold e9;rw[if_neg X,if_pos (by rw[f,GX M])]
 have C:=t h.object;rw[if_pos rfl,w,apw,Y]at C;have hhv:=afa (old:=h.old) (kind:=h.kind) (y:=h.held) (key:=h.key) (x:=h.element) i.apart (fun _=>r) (fun k=>by rw[f]at k;cases k);refine⟨fun x D m=> ?_,fun x m=> ?_,fun y c az=> ?_⟩
 ·by_cases n:x=h.object
  ·subst n
   rw[C]at m;cases m;refine⟨{l with fE:=some j,ks:=cv h.key ⟨v,z⟩ B},by rw[h6,if_pos rfl],i.list,fun _ s g=> ?_,fun _=> ?_,fun _ key=> ?_,fun k=> ?_,fun k=> ?_,fun k=> ?_⟩
   ·by_cases o:∃s∈d.ss,eG h.key h.element s=true
    ·obtain⟨s0,E,F⟩:=o
     simp only[K9 i.apart E F]at g;obtain⟨s1,hD,rfl⟩:=aoX.1 g;rw[La,Lb];exact i.keys f s1 hD
    ·have u:∀s∈d.ss,eG h.key h.element s=false:=fun s I=>by
      cases a:eG h.key h.element s
      ·rfl
      ·exact absurd ⟨s,I,a⟩ o
     simp only[f,Pc u]at g;rcases aoZ.1 g with g|g
     ·exact i.keys f s g
     ·simp at g
      subst g;exact⟨M,rfl⟩
   ·by_cases o:∃s∈d.ss,eG h.key h.element s=true
    ·obtain⟨s0,E,F⟩:=o
     simp only[K9 i.apart E F];rw[apI];have :(bU.key∘oT h.key h.element h.old h.kind h.held)=bU.key:=by funext s;exact Lb s
     rw[this];exact i.CZ f
    ·have u:∀s∈d.ss,eG h.key h.element s=false:=fun s I=>by
      cases a:eG h.key h.element s
      ·rfl
      ·exact absurd ⟨s,I,a⟩ o
     simp only[f,Pc u];rw[ao8];have c6:h.key∉d.ss.map bU.key:=fun hm=>by
      obtain⟨s,g,he⟩:=aoX.1 hm;have :=u s g;rw[oS.2 ⟨he,(i.keys f s g).2.trans r.symm⟩]at this;cases this
     have ag:=aq6 (l₁:=d.ss.map bU.key) (l₂:=[h.key]);exact(ag.nodup_iff).2 (apg.2 ⟨c6,i.CZ f⟩)
   ·rw[hhv,h6,r]
    by_cases L:key=h.key
    ·subst L
     rw[if_pos rfl,if_pos ⟨rfl,rfl⟩];rw[r]at N;exact N
    ·rw[if_neg L,if_neg (fun k=>L k.1),ae1 U S]
     exact i.E9 f key
   ·exact absurd k (by simp[f])
   ·exact absurd k (by simp[f])
   ·exact absurd k (by simp[f])
  ·rw[t,if_neg n]at m
   obtain⟨P,p,q⟩:=a.bg x D m;exact⟨P,by rw[h6,if_neg n];exact p,q⟩
 ·have n:x≠h.object:=fun c=>by subst c;rw[C]at m;cases m
  rw[t,if_neg n]at m;show bq x (cv _ _ _)=none;rw[h6,if_neg n];exact a.c7 x m
 ·obtain⟨D,p,q,ak⟩:=a.el y c az
  have n:c.list≠h.object:=fun e'=>by rw[e',w]at p;cases p;rw[f]at q;cases q
  exact⟨D,by rw[t,if_neg n];exact p,q,ak⟩
theorem eA.afc(c:eA b e)(hk:h.kind=3\/h.kind=4)(o:bl b h.object=some d)(f:d.list=true)(C:h.key=⟨#[]⟩)(D:h.element∈d.ss.map bU.id){m:dS}(t:bq h.element e.2=some m){v:Option Nat}{aB:List (PId×dR)}(M:aB.Perm ((hb h.old (fD d h.key h.element) h.kind h.held).map mQ)):
  eA (b0 b h) (e.1,cv h.element {m with v:=v,aB:=aB} e.2):=by
 obtain⟨S,U,k⟩:=c.bg _ d o;have W:h.kind≠1:=by omega
 have X:h.kind≠2:=by omega
 have u:∀y,bl (b0 b h) y=if y=h.object then(bl b y).map (e9 h) else bl b y:=fun y=>zj W y
 have Y:e9 h d=⟨d.id,d.list,kN d.ss d.list h.key h.element h.old h.kind h.held⟩:=by
  unfold e9;rw[if_neg X,if_pos (by rw[f,C,GW];rfl)]
 have p:=u h.object;rw[if_pos rfl,o,apw,Y]at p;obtain⟨s0,N,C2⟩:=aoX.1 D;have jm:eG h.key h.element s0=true:=oS.2 ⟨(k.elems f s0 N).1.trans C.symm,C2⟩;rw[K9 k.apart N jm]at p;have E:(d.ss.map (oT h.key h.element h.old h.kind h.held)).map bU.id=d.ss.map bU.id:=by
  rw[apI];congr 1;funext s;exact La s
 obtain⟨ct,_,P,Pg,_⟩:=c.elem o f D;rw[t]at P;cases P;refine⟨fun x w g=> ?_,fun x g=> ?_,fun y a az=> ?_⟩
 ·by_cases j:x=h.object
  ·subst j
   rw[p]at g;cases g;refine⟨S,U,k.list,fun l=> ?_,fun l=> ?_,fun l=> ?_,fun _ s F=> ?_,fun _=> ?_,fun _=> ?_⟩
   ·exact absurd l (by simp[f])
   ·exact absurd l (by simp[f])
   ·exact absurd l (by simp[f])
   ·obtain⟨q,Q,rfl⟩:=aoX.1 F
    obtain⟨i,n,aj,z,aL,bW⟩:=k.elems f q Q;rw[La,Lb];refine⟨i,n,?_⟩;show ∃a,bq q.id (cv _ _ _)=some a/\_;rw[h6];by_cases B:q.id=h.element
    ·rw[if_pos B]
     refine⟨_,rfl,Pg,?_⟩;have R:eG h.key h.element q=true:=oS.2 ⟨i.trans C.symm,B⟩;have ay:fD d h.key h.element=q.ad:=k.Ht Q R;unfold oT;rw[if_pos R];rw[ay]at M;exact M
    ·rw[if_neg B]
     refine⟨aj,z,aL,?_⟩;unfold oT;rw[if_neg (fun l=>B (oS.1 l).2)];exact bW
   ·show((d.ss.map (oT h.key h.element h.old h.kind h.held)).map bU.id).Nodup
    rw[E];exact k.C0 f
   ·show jZ _ _ ((d.ss.map (oT h.key h.element h.old h.kind h.held)).map bU.id)
    rw[E];exact(k.chain f).same (e':={m with v:=v,aB:=aB}) t rfl
  ·rw[u,if_neg j]at g
   obtain⟨tU,i,n⟩:=c.bg x w g;refine⟨tU,i,n.Pd (fun I s F=> ?_) (fun I=>(n.chain I).same (e':={m with v:=v,aB:=aB}) t rfl)⟩;have hm:s.id∈w.ss.map bU.id:=aoX.2 ⟨s,F,rfl⟩;show bq s.id (cv _ _ _)=_;rw[h6,if_neg (fun(a:s.id=h.element)=>j (c.one g I o f (a▸hm) D))]
 ·have j:x≠h.object:=fun a=>by subst a;rw[p]at g;cases g
  rw[u,if_neg j]at g;exact c.c7 x g
 ·have hold:∃e',bq y e.2=some e'/\e'.list=a.list:=by
   have r:bq y (cv h.element {m with v:=v,aB:=aB} e.2)=some a:=az;rw[h6]at r;by_cases L:y=h.element
   ·rw[if_pos L]at r
    cases r;exact⟨m,L▸t,rfl⟩
   ·rw[if_neg L]at r
    exact⟨a,r,rfl⟩
  obtain⟨e',h0,h0'⟩:=hold;obtain⟨w,i,n,z⟩:=c.el y e' h0;rw[<-h0'];by_cases j:e'.list=h.object
  ·rw[j]at i⊢
   rw[o]at i;cases i;exact⟨_,p,f,by show y∈(d.ss.map (oT h.key h.element h.old h.kind h.held)).map bU.id;rw[E];exact z⟩
  ·exact⟨w,by rw[u,if_neg j];exact i,n,z⟩
theorem eA.step{w}(a:eA b e)(N:fG e){n:Int}(r:Fit b h)(d:l0 e (zk h n) w):eA (b0 b h) w:=by
 unfold l0 zk Hn at d;have E:(h.kind=3\/h.kind=4)->∀{v:Option Nat} {l y:List (PId×dR)},l.Perm (qR h.old (eY e.1 e.2 h.object h.key h.element).aB)->y=(if h.kind=3 then cv h.id (h.num,h.obj) l else l)->AK e h.object h.key h.element v y w->eA (b0 b h) w:=by
  intro c v l y t P s;obtain⟨o,p,z,F⟩:=r.val c;have I:∀d:List cE,(eY e.1 e.2 h.object h.key h.element).aB.Perm (d.map mQ)->(∀a∈d,a.cD≠h.id)->y.Perm ((hb h.old d h.kind h.held).map mQ):=by
   intro d q B;have i:l.Perm ((unnamed h.old d).map mQ):=by
    rw[<-ae8];exact t.trans (q.filter _)
   unfold hb;rw[ao8,P];by_cases j:h.kind=3
   ·rw[if_pos j,if_pos j]
    have Q:h.id∉l.map (·.1):=fun C=>by
     rw[(i.map (·.1)).mem_iff]at C;simp only[apI,aoX,Function.comp]at C;obtain⟨x,R,S⟩:=C;exact B x (apA.1 R).1 S
    rw[VV Q];exact i.append_right _
   ·rw[if_neg j,if_neg j]
    simpa using i
  rcases z with⟨k,f,m⟩|⟨k,f,m⟩
  ·rcases s with⟨D,_⟩|⟨_,aW,g,pB,L,U,rfl⟩
   ·exact absurd D f
   ·have q:=(a.zl p k f h.element).2
    rw[<-m]at q;exact a.afb c p k f m L (N.ks _ (fQ L)) U (I _ q F)
  ·rcases s with⟨_,el,W,rfl⟩|⟨D,_⟩
   ·have q:=(a.Fa p k m).2
    rw[<-f]at q;exact a.afc c p k f m W (I _ q F)
   ·exact absurd f D
 have M:(h.kind=3\/h.kind=4)->lA e.1 e.2 h.object h.key h.element=true:=by
  intro c;obtain⟨o,p,z,_⟩:=r.val c;rcases z with⟨k,f,m⟩|⟨k,f,m⟩
  ·exact(a.zl p k f h.element).1
  ·rw[f];exact(a.Fa p k m).1
 rcases r.kind with c|c|c|c
 ·simp only[c,if_true]at d
  subst d;exact a.make c (r.make c)
 ·have i:¬h.kind=1:=by omega
  simp only[i,c,if_true,if_false]at d;obtain⟨u,j,o,X,Y,eR⟩:=r.lay c;simp at d;subst d;exact a.lay c u j X Y eR
 ·have i:¬h.kind=1:=by omega
  have u:¬h.kind=2:=by omega
  simp only[i,u,c,if_true,if_false,AM]at d;obtain⟨o',fY⟩:=r.obj c;obtain⟨tU,xS,_⟩:=a.bg _ o' fY;have B:xG e h.object h.key h.element h.obj=true:=by
   unfold xG;rw[M (.inl c),xS];rfl
  simp[B]at d;obtain⟨v,l,t,s⟩:=d;exact E (.inl c) t (by rw[if_pos c]) s
 ·have i:¬h.kind=1:=by omega
  have u:¬h.kind=2:=by omega
  have j:¬h.kind=3:=by omega
  simp only[i,u,j,if_false,AL,M (.inr c),if_true]at d;obtain⟨v,l,t,s⟩:=d;exact E (.inr c) t (by rw[if_neg j]) s
end Go.Proofs.YtnkpogjiiohapaaGreatDoor
