/- Our own text. -/
import Derived.Conc.EventLaws
import Derived.Test.YtnkpogjiiohapaaGreatDoorA30
import Derived.Test.YtnkpogjiiohapaaGreatDoorA26
set_option linter.unusedSimpArgs false
set_option linter.unusedVariables false
set_option maxRecDepth 1000000
set_option maxHeartbeats 1000000
namespace Go.Proofs.YtnkpogjiiohapaaGreatDoor
section
open Go.RowKit Go.Conc Tryz
attribute [local go_sem ↓] Go.wp_at_zero Go.wp_at_succ
variable {a c d e f:Nat}{b:World}
theorem ajC{l}(h:hq b a c l false d e):
  O 157 #[Z a] b fun f j=>(∃u,f=.returned u)/\hq j a c l true d e/\aO (fun k=>k=a\/k=c) b j:=by
 have t:b.cell? (H a)=some (.chan (some c)):=by simp[World.cell?,h.blk]
 have v:b.cell? (K a 1)=some (.bool false):=by simp[World.cell?,h.blk]
 have w:=aN h.blk;have x:=cG h.blk;have g:c≠a:=fun f=>by
  have m:=h.lA;rw[f,h.blk]at m;cases m
 have i:(b.setCell (K a 1) (.bool true)).heap[c]?=some (.chan 12 l.toArray false d e false):=(dy g).trans h.lA;have y:=fun r=>run_close_open (P:=prog) #[151] r i
 have n:=aa h;have p:=aa (And.intro g i);clear g i h;go_enter func157,ntmps157;go_wp2;go_end0
 have s:(b.setCell (K a 1) (.bool true)).heap[a]?=some (.cells #[.chan (some c),.bool true] 153 (0,0)):=by
  show(b.heap.modify a _)[a]?=_;rw[ars,if_pos rfl,n.o.blk];rfl
 refine⟨⟨_,rfl⟩,⟨?_,?_,n.o.len⟩,⟨rfl,rfl,rfl,by simp[World.setCell],fun k _ q=> ?_⟩⟩
 ·show((b.setCell (K a 1) (.bool true)).heap.setIfInBounds c _)[a]?=_;rw[Array.getElem?_setIfInBounds_ne p.o.1];exact s
 ·show((b.setCell (K a 1) (.bool true)).heap.setIfInBounds c _)[c]?=_;rw[Array.getElem?_setIfInBounds_self,if_pos (aN p.o.2)]
 show((b.setCell (K a 1) (.bool true)).heap.setIfInBounds c _)[k]?=_;rw[Array.getElem?_setIfInBounds_ne fun f=>q (.inr f.symm)];exact dy fun f=>q (.inl f)
def Af (s:bn) (c d:Nat):bn:={s with sh:=upd s.sh c (upd (s.sh c) d true)}
theorem ec.ajD{E F I s x}(h:ec b e F I d f s x)(r:a<d)(v:c<d)(w:a≠c)(hl:hq E (x.gl a c) (x.gc a c) (x.fX a c) true (x.rq a c) (x.tt a c))(z:aO (fun k=>k=x.gl a c\/k=x.gc a c) b E):ec E e F I d f (Af s a c) x:=by
 have M:=(h.link a c r v w).blk;have Y:=(h.link a c r v w).lA;have aD:=h.dq a c r v w;have o:∀k,F k->k≠x.gl a c->k≠x.gc a c->E.heap[k]?=b.heap[k]?:=fun k hF q N=>z.other k (h.lt k hF) fun i=>i.elim q N
 have hi:∀k,I k->E.heap[k]?=b.heap[k]?:=fun k cD=>z.other k (h.cx k cD) fun i=>h.eC k cD (i.elim (fun i=>i▸aD.1) fun i=>i▸aD.2)
 have S:∀(k:Nat) (L:Array Value) (t:TypeId) (n:Nat×Nat),b.heap[k]?=some (.cells L t n)->k≠x.gc a c:=fun k L t n o i=>by rw[i,Y]at o;cases o
 have ZS:∀(k:Nat) (L:Array Value) (t:TypeId) (n:Nat×Nat),b.heap[k]?=some (.cells L t n)->t≠153->k≠x.gl a c:=fun k L t n o P i=>by
  rw[i]at o;exact P (bK o M)
 obtain⟨es,aT,U⟩:=h.lmap;have gD:x.jK≠x.gc a c/\x.jK≠x.gl a c:=⟨fun i=>(by have :=U.blk;rw[i,Y]at this;cases this),fun i=>(by have :=U.blk;rw[i,M]at this;cases this)⟩;obtain⟨cur,cr⟩:=bq h.row (g:=x.db) rfl;refine⟨by rw[o _ h.b3 (ZS _ _ _ _ h.blk (by decide)) (S _ _ _ _ h.blk)];exact h.blk,ca h.row (fun g ag=>by cases ag;exact o _ h.lW (ZS _ _ _ _ cr (by decide)) (S _ _ _ _ cr)),h.hN,fun i Q=>(h.eK i Q).gw z.size (fun k hF=>o k (h.sub i Q k hF) (fun p=>(h.nl i Q a c r v w).1 (p▸hF)) fun p=>(h.nl i Q a c r v w).2 (p▸hF)) hi,h.ko,h.l3,h.z7,h.Ej,⟨es,aT,U.gJ (o _ h.oB gD.2 gD.1)⟩,h.look,h.z8,fun j l B C D=> ?_,fun j l B C D=>(h.tu j l B C D).imp fun m u hm=>hm.ft hi z.size (fun _ y=>y),h.inj,h.sub,h.jn,h.pg,h.yF,h.p2,h.nl,h.b3,h.lW,h.oB,h.dq,fun k W=>ap3 (h.lt k W) z.size,h.eC,fun k W=>ap3 (h.cx k W) z.size⟩;by_cases i:j=a/\l=c
 ·obtain⟨rfl,rfl⟩:=i;unfold Af;simp only[bF];exact hl
 have R:=h.link j l B C D;have P:x.gc j l≠x.gc a c:=fun p=>i (h.inj j l a c B C D r v w p)
 have hng:x.gl j l≠x.gl a c:=fun p=>by
  have q:=R.blk;rw[p,M]at q;simp only[aqo,Obj.cells.injEq]at q;have N:=congrArg (fun j=>j[0]?) q.1;simp at N;exact P N.symm
 have pM:x.gc j l≠x.gl a c:=fun p=>by
  have q:=R.lA;rw[p,M]at q;cases q
 have jO:=R.j3 (o _ (h.dq j l B C D).1 hng (S _ _ _ _ R.blk)) (o _ (h.dq j l B C D).2 pM P);unfold Af;by_cases aj:j=a
 ·subst aj;have X:l≠c:=fun X=>i ⟨rfl,X⟩
  simp only[bF,b6 _ _ X];exact jO
 simp only[b6 _ _ aj];exact jO
theorem ajE{F I s x}(h:ec b e F I d f s x)(p:a<d)(q:c<d)(r:a≠c):O 120 #[Z e,A a,A c] b fun g C=>g=.returned (A (if s.sh a c=true then 10 else 0))/\vT e d f F I b C (if s.sh a c=true then s else Af s a c):=by
 have v:=aa (IV h p q r);have n:=h.link a c p q r;have w:b.cell? (K (x.gl a c) 1)=some (.bool (s.sh a c)):=by simp[World.cell?,n.blk]
 by_cases j:s.sh a c=true
 ·rw[j]at w;rw[if_pos j,if_pos j];have m:=aa h;clear h n j;go_enter func120,ntmps120;go_wp2_with fail
  refine v.o.mono ?_;rintro g D ⟨rfl,rfl⟩;go_wp2;go_ret
  exact⟨rfl,m.o.same (apY _ _)⟩
 have y:s.sh a c=false:=by cases g:s.sh a c with |false=>rfl|true=>exact absurd g j
 rw[y]at w n;rw[if_neg j,if_neg j];have E:=aa (ajC n);have m:=aa h;clear h n j y;go_enter func120,ntmps120;go_wp2_with fail
 refine v.o.mono ?_;rintro g D ⟨rfl,rfl⟩;go_wp2_with fail
 refine E.o.mono ?_;rintro g L ⟨⟨u,rfl⟩,z,B⟩;have l:=aa (And.intro z B);clear z B;go_wp2;go_ret
 have t:=m.o.dq a c p q r;refine⟨rfl,F,I,x,m.o.ajD p q r l.o.1 l.o.2,⟨l.o.2.os,l.o.2.tape,l.o.2.output,l.o.2.size,fun k i hF=>l.o.2.other k i fun g=> ?_,fun k i=>.inl i⟩,fun k i=>⟨i,l.o.2.other k (m.o.cx k i) fun g=>m.o.eC k i ?_⟩,fun _ i=>.inl i⟩
 ·rcases g with g|g
  ·exact hF (g▸t.1)
  exact hF (g▸t.2)
 rcases g with g|g
 ·exact g▸t.1
 exact g▸t.2
end
section
theorem ajF{l:List ar}{a b:List PId}(h:(l.map en).Sublist (a++b))(g:(a++b).Nodup):∃x y,l=x++y/\(x.map en).Sublist a/\(y.map en).Sublist b/\uE l a=x.length:=by
 obtain⟨m,n,e,d,f⟩:=List.sublist_append_iff.1 h;obtain⟨x,y,rfl,rfl,rfl⟩:=List.map_eq_append_iff.1 e;refine⟨x,y,rfl,d,f,?_⟩;unfold uE;have i:∀o∈x,(fun o=>decide (en o∈a)) o=true:=fun o c=>decide_eq_true (d.subset (arU c))
 have j:∀o∈y,¬en o∈a:=fun o c k=>(aqF.1 g).2.2 _ k _ (f.subset (arU c)) rfl
 rw[List.takeWhile_append_of_pos i];cases y with
 |nil=>simp
 |cons o y=>rw[List.takeWhile_cons,if_neg (by simp[j o aqf])];simp
theorem ZT{b:List ar}{a:List PId}(h:(b.map en).Sublist a)(n:a.Nodup):∀k:Nat,(∃y,b.drop (lk b a (List.range k)).1=y/\(y.map en).Sublist (a.drop (8*k))/\∀o∈b,en o∈a.drop (8*k)->o∈y)/\∀j (g:j<(lk b a (List.range k)).2.length),∀o,o∈(b.drop (lk b a (List.range k)).2[j].1).take (lk b a (List.range k)).2[j].2↔(o∈b/\en o∈partOf a j)
 |0=>⟨⟨b,rfl,by simpa using h,fun o c _=>c⟩,fun j g=>by simp[lk]at g⟩
 |k+1=>by
  obtain⟨⟨y,e,p,r⟩,g⟩:=ZT h n k;have i:a.drop (8*k)=partOf a k++a.drop (8*(k+1)):=by
   unfold partOf;rw[show 8*(k+1)=8*k+8 by omega,<-List.drop_drop,arI]
  have s:(partOf a k++a.drop (8*(k+1))).Nodup:=by rw[<-i];exact n.sublist (List.drop_sublist _ _)
  rw[i]at p;obtain⟨x,z,d,l,m,w⟩:=ajF p s;have B:=Mr b a (List.range k);have C:∀o∈y,o∈b:=fun o c=>by rw[<-e]at c;exact aq8 c
  have t:∀q,q∈partOf a k->¬q∈a.drop (8*(k+1)):=fun q l m=>(aqF.1 s).2.2 q l q m rfl
  rw[aqI,X8,e,w];refine⟨⟨z,?_,m,fun o c f=> ?_⟩,fun j D o=> ?_⟩
  ·show b.drop (_+x.length)=z;rw[<-List.drop_drop,e,d,List.drop_left]
  ·have :=r o c (by rw[i];exact arW _ f);rw[d]at this;rcases ap7.1 this with h|h
   ·exact absurd f (t _ (l.subset (arU h)))
   exact h
  simp only[ap4,aqk,aqC]at D;by_cases u:j<(lk b a (List.range k)).2.length
  ·simp only[arv u];exact g j u o
  have v:j=(lk b a (List.range k)).2.length:=by omega
  have E:j=k:=by rw[v,B,aq6]
  subst v;simp only[List.getElem_concat_length];rw[e,d,List.take_left,E];refine⟨fun c=>⟨C o (by rw[d];exact aq3 _ c),l.subset (arU c)⟩,fun⟨c,f⟩=> ?_⟩;have :=r o c (by rw[i];exact aq3 _ f);rw[d]at this;rcases ap7.1 this with h|h
  ·exact h
  exact absurd (m.subset (arU h)) (t _ f)
theorem Sb{c:Nat}{f:Int}{n:Nat}{k:PId}:k∈rm c f n↔k.1=(c:Int)/\f<k.2/\k.2<=f+n:=by
 unfold rm;simp only[ap5,aqX];constructor
 ·rintro⟨j,b,rfl⟩;exact⟨rfl,by omega,by omega⟩
 rintro⟨a,d,e⟩;exact⟨(k.2-f-1).toNat,by omega,by rw[<-a];exact Prod.ext rfl (by simp;omega)⟩
theorem Sc{e f:Nat->Int}{k:PId}:∀{n:Nat},k∈kn e f n↔∃c:Nat,c<n/\k.1=(c:Int)/\e c<k.2/\k.2<=f c:=by
 intro n;unfold kn;simp only[aqq,aqX,Sb];constructor
 ·rintro⟨c,a,b,d,g⟩;exact⟨c,a,b,d,by omega⟩
 rintro⟨c,a,b,d,g⟩;exact⟨c,a,b,d,by omega⟩
def Ey (l:List PId):Prop:=l.Pairwise fun a b=>e2 a b=true
theorem ZV(c:Nat)(f:Int):∀n,Ey (rm c f n)
 |0=>by simp[Ey,rm]
 |n+1=>by
  rw[X3];refine arc.2 ⟨ZV c f n,asb _ _,fun a d b e=> ?_⟩;obtain rfl:=ap9.1 e;obtain⟨g,h,i⟩:=Sb.1 d;rw[qz]
  right
  exact⟨g,by show a.2<f+1+(n:Int);omega⟩
theorem Sd(d e:Nat->Int):∀n,Ey (kn d e n)
 |0=>by simp[Ey,kn]
 |n+1=>by
  rw[Mn];refine arc.2 ⟨Sd d e n,ZV _ _ _,fun a f b g=> ?_⟩;obtain⟨c,h,i,_⟩:=Sc.1 f;obtain⟨j,_⟩:=Sb.1 g;rw[qz]
  left
  omega
theorem ajG{l}(h:Ey l):l.Nodup:=h.imp fun{a b} h e=>by
 subst e;rw[uw]at h;cases h
theorem Se:∀{l m:List PId},Ey l->Ey m->(∀x∈l,x∈m)->l.Sublist m
 |[],m,_,_,_=>List.nil_sublist _
 |a::l,[],_,_,h=>absurd (h a aqf) (by simp)
 |a::l,b::m,g,k,h=>by
  obtain⟨i,n⟩:=aqU.1 g;obtain⟨o,j⟩:=aqU.1 k;by_cases e:a=b
  ·subst e;refine(Se n j fun x f=> ?_).cons_cons a;rcases aqb.1 (h x (aqh _ f)) with c|c
   ·have :=i x f;rw[c,uw]at this;cases this
   exact c
  refine(Se g j fun x f=> ?_).cons b;rcases aqb.1 (h x f) with c|c
  ·subst c;exfalso;have p:a∈m:=by
    rcases aqb.1 (h a aqf) with d|d
    ·exact absurd d e
    exact d
   rcases aqb.1 f with d|d
   ·exact e d.symm
   have :=BE (i x d) (o a p);rw[uw]at this;cases this
  exact c
end
end Go.Proofs.YtnkpogjiiohapaaGreatDoor
