/- Our own text. -/
import Derived.Test.YtnkpogjiiohapaaGreatDoorA21
import Derived.Test.YtnkpogjiiohapaaGreatDoorA19
set_option linter.unusedSimpArgs false
set_option linter.unusedVariables false
set_option maxRecDepth 1000000
set_option maxHeartbeats 2000000
namespace Go.Proofs.YtnkpogjiiohapaaGreatDoor
section
open Go.RowKit Tryz
attribute [local go_sem ↓] Go.wp_at_zero Go.wp_at_succ
variable {a e f k l:Nat}{b:World}{d j:Nat->Prop}{h:bO}{i:dc}
theorem QM(g:gb b e d j a f h i)(c:Nat)(l:c<a):
  O 44 #[Z e,A c] b fun k m=>k=.returned (.tuple #[Z (i.ei c),A 0])/\m=b:=by
 have o:=(bh g.blk).1;have p:=g.cell l;have n:=g.cap;have q:=g.hN;unfold maxLen at n;have r:(0:Int)<=(c:Int):=ao0 _;have s:(c:Int)<(a:Int):=by omega
 clear g;go_enter func44,ntmps44;go_wp2;go_ret2
 exact⟨rfl,rfl⟩
theorem gb.find(g:gb b k d j f l h i)(m:a<f)(n:e<f)(o:a≠e)(c:Bool)(W:World)(p:J b W):(Instr.lookup 117 (.map (some i.jT)) (.agg #[A a,A e]) c).run prog W=.ok (if c then .tuple #[Z (i.gl a e),.bool true] else Z (i.gl a e)) W:=by
 obtain⟨r,s,q⟩:=g.lmap;have :=yy PT (q.af p) underlying117 (show(zeroValue 110).run prog W=.ok (.pointer none) W by kernel_rfl) ((a:Int),(e:Int)) c;rw[g.look a e m n o]at this;cases c with
 |true=>exact this
 |false=>exact this
theorem QN(c:gb b k d j f l h i)(m:a<f)(n:e<f)(o:a≠e):
  O 51 #[Z k,A a,A e] b fun g p=>g=.returned (.tuple #[Z (i.gl a e),A 0])/\p=b:=by
 have r:=(bh c.blk).2;have q:=c.find m n o true b (aoQ _ _);simp only[if_true]at q;clear c m n o;go_enter func51,ntmps51;go_wp2;go_ret2
 exact⟨rfl,rfl⟩
theorem aho{F}(g:gb b k F d f l h i)(n:a<f)(p:e<f)(q:a≠e):
  O 74 #[Z k,A a,A e] b fun c t=>c=.returned (if h.ms a e=[] then .tuple #[.pointer none,A 12] else .tuple #[Z (i.gl a e),A 0])/\t=b:=by
 have s:=aa (QN g n p q);have r:=aa (XO (g.link a e n p q));have m:=(g.wz a e n p q).len;clear g;by_cases j:h.ms a e=[]
 ·rw[if_pos j]
  rw[j]at m;rw[<-m]at r;clear m j;go_enter func74,ntmps74;go_wp2_with fail
  refine s.o.mono ?_;rintro c u ⟨rfl,rfl⟩;go_wp2_with fail
  refine r.o.mono ?_;rintro c v ⟨rfl,rfl⟩;go_wp2;go_ret2
  exact⟨rfl,rfl⟩
 ·rw[if_neg j]
  have w:¬(i.gr a e).length=0:=by
   rw[<-m];exact fun c=>j (aqg c)
  clear m j;go_enter func74,ntmps74;go_wp2_with fail
  refine s.o.mono ?_;rintro c u ⟨rfl,rfl⟩;go_wp2_with fail
  refine r.o.mono ?_;rintro c v ⟨rfl,rfl⟩;go_wp2;go_ret2
  exact⟨rfl,rfl⟩
theorem ahp(g:gb b e d j a f h i)(c:Nat)(l:c<a):
  O 25 #[Z e,A c] b fun k m=>∃u,k=.returned (.tuple #[u,A 0])/\qp b.heap.size m u (kG a (h.has c))/\J b m:=by
 have s:=aa (QM g c l);obtain⟨t,v,y,w,dC,x⟩:=(g.eM c l).cells;have n:=aa (Xp (g.eM c l).ints (by rw[ug];have :=g.hN;omega));rw[ug]at n;clear g t v w dC x;go_enter func25,ntmps25;go_wp2_with fail
 refine s.o.mono ?_;rintro k z ⟨rfl,rfl⟩;go_wp2_with fail
 refine n.o.mono ?_;rintro k B ⟨u,rfl,p,q⟩;have r:=aa (And.intro p q);clear p q;go_wp2;go_ret2
 exact⟨u,rfl,r.o.1,r.o.2⟩
theorem QO{g}{F:Nat->Prop}{W:World}(c:J b W)(d:aP (fun k=>k=a) W g)(h:F a):c0 F F b g:=
 ⟨d.os.trans c.os,d.tape.trans c.tape,d.output.trans c.output,aoS c.size d.size,fun k f hF=>(d.other k (aoV f c.size) fun e=>hF (e▸h)).trans (c.block k f),fun k f=>.inl f⟩
def DK (N:Nat) (s:bO) (c d:Nat):bO:=if s.sh c d=true\/(s.ms c d).length=12 then s else{s with ms:=upd s.ms c (upd (s.ms c) d (s.ms c d++[.inl (kG N (s.has c))]))}
def DL (I a:Nat->Prop) (w b:World):Prop:=(∀k,I k->a k/\b.heap[k]?=w.heap[k]?)/\∀k,a k->I k\/w.heap.size<=k
theorem DL.trans{I d e w c f}(h:DL I d w c)(k:DL d e c f)(g:w.heap.size<=c.heap.size):DL I e w f:=⟨fun b a=>⟨(k.1 b (h.1 b a).1).1,(k.1 b (h.1 b a).1).2.trans (h.1 b a).2⟩,fun b a=>(k.2 b a).elim (h.2 b) fun i=>.inr (aoS g i)⟩
def zH (r N d:Nat) (F I:Nat->Prop) (w a:World) (e:bO):Prop:=∃b c f,gb a r b c N d e f/\c0 F b w a/\DL I c w a
theorem gb.same{w F}(c:gb w a F d e f h i)(j:J w b):zH a e f F d w b h:=
 ⟨F,d,i,c.af j,c0.cQ j,fun k g=>⟨g,j.block k (c.cJ k g)⟩,fun _ g=>.inl g⟩
theorem qp.msg{u l}(h:qp a b u l)(f:0<l.length)(j:l.length<=1000):∃g c,u=.slice (some (H g)) l.length c/\a<=g/\g<b.heap.size/\q9 b g c l.length (rowOf l):=by
 obtain⟨g,c,rfl,k,m,n,d,o⟩:=h.qq f j;refine⟨g,c,rfl,n,d,⟨fun i e=> ?_,k,m,d⟩⟩;rw[o i e];simp[rowOf,e]
theorem ahq(p:gb b k j d f l h i)(v:a<f)(w:e<f)(x:a≠e):
  O 27 #[Z k,A a,A e] b fun m w'=>m=.returned (A (if h.sh a e=true then 10 else if(h.ms a e).length=12 then 8 else 0))/\zH k f l j d b w' (DK f h a e):=by
 have P:=aa (QN p v w x);have y:=aa (XP (p.link a e v w x));have E:=(p.wz a e v w x).len;have j8:=aa (fun W (s:J b W)=>agO ((p.af s).eM a v));have S:=(bh p.blk).1;have U:=p.cell v;have hcap:=p.cap;have hN:=p.hN;unfold maxLen at hcap;have p3:(0:Int)<=(a:Int):=ao0 _;have kx:(a:Int)<(f:Int):=by omega
 have t:=aa p;clear p;unfold DK;rw[<-E]at y;by_cases z:h.sh a e=true
 ·rw[if_pos z]at y⊢
  rw[if_pos (show h.sh a e=true\/(h.ms a e).length=12 from .inl z)];clear z E;go_enter func27,ntmps27;go_wp2_with fail
  refine P.o.mono ?_;rintro m X ⟨rfl,rfl⟩;go_wp2_with fail
  refine y.o.mono ?_;rintro m Y ⟨rfl,s⟩;have B:=aa s;clear s;go_wp2;go_ret
  exact⟨rfl,t.o.same B.o⟩
 have tl:=aa (show h.sh a e=false by cases m:h.sh a e with |false=>rfl|true=>exact absurd m z);rw[if_neg z]at y⊢;by_cases C:(h.ms a e).length=12
 ·rw[if_pos C]at y⊢
  rw[if_pos (show h.sh a e=true\/(h.ms a e).length=12 from .inr C)];clear C E z;go_enter func27,ntmps27;go_wp2_with fail
  refine P.o.mono ?_;rintro m X ⟨rfl,rfl⟩;go_wp2_with fail
  refine y.o.mono ?_;rintro m Y ⟨rfl,s⟩;have B:=aa s;clear s;go_wp2;go_ret
  exact⟨rfl,t.o.same B.o⟩
 ·rw[if_neg C]at y⊢
  rw[if_neg (show ¬(h.sh a e=true\/(h.ms a e).length=12) from fun p=>p.elim z C)];have du:=aa (And.intro C E);clear C E z;go_enter func27,ntmps27;go_wp2_with fail
  refine P.o.mono ?_;rintro m X ⟨rfl,rfl⟩;go_wp2_with fail
  refine y.o.mono ?_;rintro m Y ⟨rfl,s⟩;replace S:=af s S;replace U:=af s U;have B:=aa s;clear s;go_wp2_with fail
  refine(j8.o _ B.o).mono ?_;rintro m F ⟨u,rfl,hu,L⟩;obtain⟨g,D,oU,Q,R,M⟩:=hu.msg (by rw[ug];omega) (by rw[ug];omega);rw[ug]at oU;subst oU;have bK:=aa (B.o.trans (L.mono B.o.size));have gi:=aa (And.intro Q (And.intro R (And.intro M L)));clear hu L M Q R;have I:=aa (bK.o.alloc bK.o.size (.cells #[.iface 115 (.slice (some (H g)) f D)] 147));have QP:=aa (XU (off:=0) (cap:=1) (n:=1) (g:=F.heap.size) ((t.o.af I.o).link a e v w x) (fun _=>.iface 115 (.slice (some (H g)) f D)) (by omega) (fun q ar=>by
   obtain rfl:q=0:=by omega
   exact(VK (bL F _))))
  go_wp2_with fail
  refine QP.o.mono ?_;rintro m w4 ⟨rfl,vm,q0,X2⟩;have N:=aa (And.intro q0 X2);clear q0 X2;go_wp2;go_ret
  obtain⟨Q,R,M,L⟩:=gi.o;have bJ:=B.o.size;have r0:=t.o.af I.o;have ye:=r0.zr (I':=fun c=>d c\/c=g) (fun c r=>.inl r) (fun c r=>by
   rcases r with r|rfl
   ·exact r0.cJ c r
   ·simp only[World.size_alloc];omega) (fun c r hF=>by
   rcases r with r|rfl
   ·exact t.o.eT c r hF
   ·have :=t.o.lt _ hF;omega)
  have hl:=N.o.1;rw[show tk (h.sh a e) (i.gr a e) ((List.range 1).map fun _=>Value.iface 115 (.slice (some (H g)) f D))=i.gr a e++[.iface 115 (.slice (some (H g)) f D)] by
   have h1:¬(i.gr a e).length=12:=by rw[<-du.o.2];exact du.o.1
   simp[tk,h1,apz,tl.o]]at hl
  have vo:r3 (F.alloc (.cells #[.iface 115 (.slice (some (H g)) f D)] 147)) (fun c=>d c\/c=g) (.inl (kG f (h.has a))) (.iface 115 (.slice (some (H g)) f D)):=by
   refine⟨g,D,by rw[ug],?_,.inr rfl⟩;exact M.af ((aoQ F.heap.size F).alloc (aoP _) _)
  have bB:=ye.Ih v w x hl N.o.2 (en.snoc vo (ye.wz a e v w x));refine⟨rfl,j,_,_,bB,QO I.o N.o.2 (t.o.dK a e v w x).2,fun c r=>⟨.inl r,?_⟩,fun c r=>r.imp id fun m=>(by rw[m];omega)⟩;exact(N.o.2.other c (aoV (t.o.cJ c r) I.o.size) fun m=>t.o.eT c r (m▸(t.o.dK a e v w x).2)).trans (I.o.block c (t.o.cJ c r))
theorem j2.taken{c}{x:Value}{l:List Value}(h:j2 b k a (x::l) c e f):j2 (b.setChan a 12 l.toArray c e (f+1) false) k a l c e (f+1):=
 ⟨(LP b _ _ _ _ _ _ (h.ne (i:=0) (v:=.chan (some a)) (by simp[World.cell?,h.blk]))).trans h.blk,by rw[Go.Conc.heap_setChan _ _ _ _ _ _ _ _ (aM h.oc)],by have :=h.len;simp at this;omega⟩
theorem r3.X3:∀{m:iH} {u:Value},r3 b d m u->∃t v,u=.iface t v
 |.inl _,_,⟨_,_,h,_⟩=>⟨_,_,h⟩
 |.inr _,_,⟨_,h,_⟩=>⟨_,_,h⟩
theorem en.X4{w:World}{I:Nat->Prop}:∀{b:List iH} {l:List Value},en (r3 w I) b l->∀u∈l,∃t v,u=.iface t v
 |[],[],_,_,a=>by cases a
 |[],_::_,h,_,_=>h.elim
 |_::_,[],h,_,_=>h.elim
 |_::_,_::_,h,u,a=>by
  rcases ao3.1 a with rfl|a
  ·exact h.1.X3
  ·exact en.X4 h.2 u a
def kX (s:bO) (c d:Nat) (l:List iH):bO:={s with ms:=upd s.ms c (upd (s.ms c) d l)}
theorem gb.first{w r F sp x}(b:gb w r F d f sp h x)(j:a<f)(k:e<f)(n:a≠e){m:iH}{g:List iH}(o:h.ms a e=m::g):∃t v l,x.gr a e=.iface t v::l/\r3 w d m (.iface t v)/\en (r3 w d) g l/\g.length=l.length/\∀u∈l,∃t v,u=.iface t v:=by
 have c:=b.wz a e j k n;rw[o]at c;cases i:x.gr a e with
 |nil=>rw[i]at c;exact c.elim
 |cons u l=>
  rw[i]at c;obtain⟨t,v,rfl⟩:=c.1.X3;exact⟨t,v,l,rfl,c.1,c.2,c.2.len,c.2.X4⟩
def LR (s:bO) (c d:Nat):bO:=match s.ms c d with
 |[]=>s
 |m::l=>if s.sh c d=true then s else kX s c d (l++[m])
end
section
variable {a:Nat->List av}{b i:Nat}{d:List av}{e j:av}{f:List (PId×av)}{h:Nat->Int}
structure jj (N:Nat) (M:Nat->List av):Prop where
 id:∀c,c<N->∀i (hi:i<(M c).length),(M c)[i].op.id.2=(c:Int)/\(M c)[i].op.nth=(i:Int)+1/\1<=(M c)[i].op.id.1
 len:∀c,c<N->(M c).length<=60
 kd:∀c,c<N->(M c).Pairwise fun a b=>a.op.id.1<b.op.id.1
def mV (N:Nat) (M:Nat->List av) (x:av):Prop:=∃c,c<N/\x∈M c
def nV (M:Nat->List av) (has:Nat->Int) (N:Nat):List av:=(List.range N).flatMap fun(c:Nat)=>(M c).take (has c).toNat
structure kI (N:Nat) (M:Nat->List av) (gt:Int) (has:Nat->Int) (ops:List av) (early:List (PId×av)):Prop where
 kG:∀c,c<N->0<=has c/\has c<=(M c).length
 perm:ops.Perm (nV M has N)
 yg:∀o∈ops,o.op.id.1<=gt
 FR:∀p∈early,mV N M p.2/\p.1=dX p.2
 QQ:(early.map (·.1)).Nodup
theorem Bw(M:Nat->List av)(has:Nat->Int)(n:Nat):nV M has (n+1)=nV M has n++(M n).take (has n).toNat:=by
 unfold nV;rw[apz,apt];simp
theorem FT{has:Nat->Int}{n:Nat}:e∈nV a has n↔∃c,c<n/\e∈(a c).take (has c).toNat:=by
 unfold nV;simp[api]
theorem QR{M M':Nat->List av}{a has':Nat->Int}:∀{n:Nat},(∀c,c<n->(M c).take (a c).toNat=(M' c).take (has' c).toNat)->nV M a n=nV M' has' n
 |0,_=>rfl
 |n+1,h=>by rw[Bw,Bw,QR fun c b=>h c (by omega),h n (by omega)]
theorem jj.nodup(g:jj b a){c:Nat}(i:c<b):(a c).Nodup:=(g.kd c i).imp fun{d f} h e=>by rw[e]at h;omega
theorem jj.at(e:jj b a){x:av}{c:Nat}(f:c<b)(g:x∈a c):∃i,∃d:i<(a c).length,x=(a c)[i]/\x.op.id.2=(c:Int)/\x.op.nth=(i:Int)+1/\1<=x.op.id.1:=by
 obtain⟨i,d,rfl⟩:=apl.1 g;obtain⟨h,j,k⟩:=e.id c f i d;exact⟨i,d,rfl,h,j,k⟩
theorem jj.X5(l:jj b a)(g:mV b a e)(k:mV b a j)(h:dX e=dX j):e=j:=by
 obtain⟨c,m,g⟩:=g;obtain⟨d,n,k⟩:=k;obtain⟨i,s,o,t,u,_⟩:=l.at m g;obtain⟨f,v,p,w,x,_⟩:=l.at n k;unfold dX at h;injection h with y z;have q:c=d:=by omega
 subst q;have r:i=f:=by omega
 subst r;rw[o,p]
theorem jj.ahr(k:jj b a)(l:mV b a e)(m:mV b a j)(h:e.op.id=j.op.id):e=j:=by
 obtain⟨c,n,l⟩:=l;obtain⟨d,s,m⟩:=m;obtain⟨i,q,o,t,v,_⟩:=k.at n l;obtain⟨f,r,p,w,x,_⟩:=k.at s m;have u:c=d:=by rw[h]at t;omega
 subst u;rcases Nat.lt_trichotomy i f with g|g|g
 ·have :=apM.1 (k.kd c n) i f q r g
  rw[<-o,<-p,h]at this;omega
 ·subst g;rw[o,p]
 ·have :=apM.1 (k.kd c n) f i r q g
  rw[<-o,<-p,h]at this;omega
theorem jj.X6{N M}(d:jj N M){has:Nat->Int}:∀{n:Nat},n<=N->(nV M has n).Nodup
 |0,_=>by simp[nV]
 |n+1,i=>by
  rw[Bw];refine aps.2 ⟨jj.X6 d (n:=n) (by omega),(d.nodup (c:=n) (by omega)).sublist (List.take_sublist _ _),fun a f b g e=> ?_⟩;subst e;obtain⟨c,j,h⟩:=FT.1 f;obtain⟨_,_,_,k,_⟩:=d.at (c:=c) (by omega) (apx h);obtain⟨_,_,_,l,_⟩:=d.at (c:=n) (by omega) (apx g);omega
theorem jj.X7{N M}(a:jj N M){has:Nat->Int}:∀{n:Nat},n<=N->(nV M has n).length<=n*60
 |0,_=>by simp[nV]
 |n+1,b=>by
  have c:=jj.X7 a (has:=has) (n:=n) (by omega);have d:=a.len n (by omega);rw[Bw,aoW,apV];have :((M n).take (has n).toNat).length<=(M n).length:=by rw[ao7];omega
  omega
theorem kI.made{gt has early}(h:kI b a gt has d early)(f:e∈d):mV b a e:=by
 obtain⟨c,g,i⟩:=FT.1 (h.perm.mem_iff.1 f);exact⟨c,g,apx i⟩
theorem kI.ji{gt has early}(c:jj b a)(h:kI b a gt has d early):d.Nodup:=h.perm.nodup_iff.2 (c.X6 (aoP _))
theorem kI.ahs{gt early}(i:jj b a)(c:kI b a gt h d early):(d.map dX).Nodup:=by
 refine apB.2 (List.Pairwise.imp_of_mem (fun{f g} j k l e=>l ?_) (c.ji i));exact i.X5 (c.made j) (c.made k) e
theorem kI.X8{gt has early}(g:jj b a)(h:kI b a gt has d early):(d.map fun o=>o.op.id).Nodup:=by
 refine apB.2 (List.Pairwise.imp_of_mem (fun{c f} i j k e=>k ?_) (h.ji g));exact g.ahr (h.made i) (h.made j) e
theorem kI.len{gt early}(e:jj b a)(c:kI b a gt h d early):d.length<=b*60:=by rw[c.perm.length_eq];exact e.X7 (aoP _)
theorem kI.copy{gt has early}(f:jj b a)(h:kI b a gt has d early)(g:e∈d):0<=e.op.id.2/\e.op.id.2<b:=by
 obtain⟨c,i,j⟩:=h.made g;obtain⟨_,_,_,k,_⟩:=f.at i j;omega
theorem kI.mem{gt early}(m:jj b a)(g:kI b a gt h d early)(q:mV b a e):e∈d↔e.op.nth<=h e.op.id.2.toNat:=by
 rw[g.perm.mem_iff,FT];obtain⟨c,n,r⟩:=q;obtain⟨i,y,l,z,B,_⟩:=m.at n r;have s:e.op.id.2.toNat=c:=by omega
 rw[s];constructor
 ·rintro⟨f,o,p⟩
  obtain⟨j,C,D,E,F,_⟩:=m.at (c:=f) o (apx p);have t:f=c:=by omega
  subst t;obtain⟨k,u,v⟩:=apl.1 p;rw[ao7]at u;have w:k<(a f).length:=by omega
  have :(a f)[k]=e:=by rw[<-v,aqo]
  obtain⟨_,x,_⟩:=m.id f o k w;rw[this]at x;omega
 ·intro I
  refine⟨c,n,apl.2 ⟨i,?_,?_⟩⟩
  ·rw[ao7];omega
  ·rw[aqo]
   exact l.symm
theorem X9:∀{l m:List av},pH l->pH m->l.Perm m->l=m
 |[],m,_,_,c=>c.nil_eq
 |a::l,[],_,_,c=>absurd c.length_eq (by simp)
 |a::l,b::m,e,f,c=>by
  obtain⟨g,i⟩:=apP.1 e;obtain⟨j,k⟩:=apP.1 f;have n:a=b:=by
   rcases ao3.1 (c.mem_iff.1 (ao6 (a:=a) (l:=l))) with h|h
   ·exact h
   ·rcases ao3.1 (c.mem_iff.2 (ao6 (a:=b) (l:=m))) with d|d
    ·exact d.symm
    ·have :=A7 (g b d) (j a h)
     rw[uc]at this;cases this
  subst n;rw[X9 i k c.cons_inv]
theorem kI.same{gt i has' g early}(e:kI b a gt h d early)(j:kI b a i has' g f)(k:pH d)(l:pH g)(m:∀c,c<b->h c=has' c):d=g:=by
 refine X9 k l (e.perm.trans ?_);rw[QR (M':=a) (has':=has') fun c n=>by rw[m c n]];exact j.perm.symm
def r4 (N:Nat) (M:Nat->List av) (m:List (PId×av)):Prop:=∀p∈m,mV N M p.2/\p.1=dX p.2
theorem r4.all{has:Nat->Int}{xs:List av}(h:r4 b a f)(d:∀x∈xs,mV b a x):r4 b a (iF has f xs):=fun p e=>by
 rcases Xi e with c|⟨x,c,rfl⟩
 ·exact h p c
 ·exact⟨d x c,rfl⟩
theorem jj.nth{N M x}(a:jj N M)(d:mV N M x):1<=x.op.nth/\x.op.nth<=60/\0<=x.op.id.2/\x.op.id.2<N:=by
 obtain⟨c,b,f⟩:=d;obtain⟨i,g,e,h,j,_⟩:=a.at b f;have :=a.len c b;omega
theorem jj.eY(f:jj b a)(g:mV b a j){c k:Nat}(h:dX j=((c:Int),(k:Int)+1)):∃q:k<(a c).length,j=(a c)[k]:=by
 obtain⟨d,l,m⟩:=g;obtain⟨i,n,e,r,s,_⟩:=f.at l m;unfold dX at h;injection h with t u;have o:d=c:=by omega
 subst o;have p:i=k:=by omega
 subst p;exact⟨n,e⟩
theorem Ya(o:jj b a)(p:r4 b a f)(c:Nat){n:Int}(s:0<=n)(d:Nat):hO f (c:Int) n d=((a c).drop n.toNat).take (hO f (c:Int) n d).length:=by
 have h:∀j (i:j<(hO f (c:Int) n d).length),∃l:n.toNat+j<(a c).length,(hO f (c:Int) n d)[j]=(a c)[n.toNat+j]:=fun j i=>by
  have q:=fQ (run_get f c d n j i);obtain⟨g,m⟩:=p _ q;exact o.eY g (c:=c) (k:=n.toNat+j) (by rw[<-m];show((c:Int),n+1+(j:Int))=_;congr 1;omega)
 apply aqz
 ·rw[ao7,apm]
  rcases Nat.eq_zero_or_pos (hO f (c:Int) n d).length with r|r
  ·omega
  ·obtain⟨l,_⟩:=h ((hO f (c:Int) n d).length-1) (by omega)
   omega
 ·intro j g m
  obtain⟨l,e⟩:=h j g;rw[e,aqo,arz]
theorem aht(c:Nat->Int)(a b:List av):hasAll c (a++b)=hasAll (hasAll c a) b:=by
 unfold hasAll;rw[apX]
theorem Yb{c:Nat}:∀(l:List av) (h:Nat->Int) (n:Int),h c=n->(∀j (b:j<l.length),l[j].op.id.2=(c:Int)/\l[j].op.nth=n+1+(j:Int))->hasAll h l=fun i=>if i=c then n+(l.length:Int) else h i
 |[],h,n,d,_=>by
  funext i;by_cases a:i=c
  ·subst a;simp[hasAll,d]
  ·simp[hasAll,a]
 |x::l,h,n,d,f=>by
  have g:=f 0 (by simp);simp only[arb]at g;have k:x.op.id.2.toNat=c:=by omega
  have e:hasAll h (x::l)=hasAll (upd h c (n+1)) l:=by
   show hasAll (upd h x.op.id.2.toNat x.op.nth) l=_;rw[k,g.2];congr 2;omega
  rw[e,Yb (c:=c) l (upd h c (n+1)) (n+1) (by simp[upd]) fun j b=>by
   have :=f (j+1) (by simpa using b);simp only[ark]at this;exact⟨this.1,by rw[this.2];push_cast;omega⟩]
  funext i;by_cases a:i=c
  ·simp[a];omega
  ·simp[a,upd]
def rb (m:List (PId×av)) (a:Nat->Int) (n:Nat) (c:Nat):Int:=if c<n then a c+((hO m (c:Int) (a c) 61).length:Int) else a c
theorem Ii{N M m}{has:Nat->Int}(d:r4 N M m):∀n,n<=N->hasAll has (iq m has n)=rb m has n
 |0,_=>by
  funext c;simp[iq,hasAll,rb]
 |n+1,l=>by
  rw[Lw,aht,Ii d n (by omega)];rw[Yb (c:=n) (hO m (n:Int) (has n) 61) (rb m has n) (has n) (by simp[rb]) fun j f=>by
   have g:=fQ (run_get m n 61 (has n) j f);obtain⟨o,e⟩:=d _ g;unfold dX at e;injection e with h k;exact⟨h.symm,k.symm⟩]
  funext i;unfold rb;by_cases a:i=n
  ·subst a;simp
  ·by_cases b:i<n
   ·simp[a,b,Nat.lt_succ_of_lt b]
   ·have :¬i<n+1:=by omega
    simp[a,b,this]
theorem ahu{gt early}(j:jj i a)(c:kI i a gt h d early)(k:r4 i a f)(l:b<i){n:Nat}:(a b).take (rb f h n b).toNat=if b<n then(a b).take (h b).toNat++hO f (b:Int) (h b) 61 else(a b).take (h b).toNat:=by
 unfold rb;have m:=(c.kG b l).1;by_cases g:b<n
 ·rw[if_pos g,if_pos g]
  have e:(h b+((hO f (b:Int) (h b) 61).length:Int)).toNat=(h b).toNat+(hO f (b:Int) (h b) 61).length:=by omega
  rw[e,List.take_add,<-Ya j k b m 61]
 ·rw[if_neg g,if_neg g]
theorem LS{gt has early}(e:jj i a)(h:kI i a gt has d early)(g:r4 i a f)(c:b<i):0<=rb f has i b/\rb f has i b<=(a b).length/\has b<=rb f has i b:=by
 have j:=h.kG b c;have k:=congrArg List.length (Ya e g b j.1 61);rw[ao7,apm]at k;unfold rb;rw[if_pos c];omega
theorem Yc{N M gt a d early m}(b:jj N M)(h:kI N M gt a d early)(c:r4 N M m):∀n,n<=N->(nV M (rb m a N) n).Perm (iq m a n++nV M a n)
 |0,_=>by simp[nV,iq]
 |n+1,f=>by
  have e:=Yc b h c n (by omega);rw[Bw,Bw,Lw,ahu b h c (by omega),if_pos (by omega)];refine(e.append_right _).trans ?_;simp only[apf];refine arv _ ?_;rw[<-apf];exact aq6
theorem LU:∀(a:List av) (gt:Int),gt<=nw gt a/\∀x∈a,x.op.id.1<=nw gt a
 |[],gt=>⟨apY _,fun x b=>by cases b⟩
 |y::a,gt=>by
  obtain⟨d,c⟩:=LU a (max gt y.op.id.1);have e:nw gt (y::a)=nw (max gt y.op.id.1) a:=rfl;rw[e];refine⟨by omega,fun x b=> ?_⟩;rcases ao3.1 b with rfl|b
  ·omega
  ·exact c x b
theorem Yd{g:Int}:∀(a:List av) (gt:Int),gt<=g->(∀x∈a,x.op.id.1<=g)->nw gt a<=g
 |[],gt,h,_=>h
 |y::a,gt,h,b=>Yd a (max gt y.op.id.1) (by have :=b y ao6;omega) fun x c=>b x (apa _ c)
theorem kI.heard{gt has early m}(g:jj b a)(h:kI b a gt has d early){m':List (PId×av)}(e:r4 b a m)(j:∀p∈m',p∈m)(k:(m'.map (·.1)).Nodup):
  kI b a (nw gt (iq m has b)) (hasAll has (iq m has b)) (ja d (iq m has b)) m':=by
 rw[Ii e b (aoP _)];refine⟨fun c i=>⟨(LS g h e i).1,(LS g h e i).2.1⟩,?_,fun o f=> ?_,fun p l=>e p (j p l),k⟩
 ·exact(A8 _ _).trans ((arv _ h.perm).trans (Yc g h e b (aoP _)).symm)
 ·obtain⟨q,n⟩:=LU (iq m has b) gt
  rcases aoZ.1 ((A8 _ _).mem_iff.1 f) with f|f
  ·exact n o f
  ·have :=h.yg o f;omega
end
section
open Go.RowKit Tryz
attribute [local go_sem ↓] Go.wp_at_zero Go.wp_at_succ
variable {a d f h i:Nat}{b:World}{e:Value}
def FU:List iH->List iH->List iH
 |l,[]=>l
 |l,m::a=>FU (if l.length=12 then l else l++[m]) a
theorem en.DE{R:iH->Value->Prop}:∀{f:List iH} {us:List Value} {d:List iH} {c:List Value},en R d c->en R f us->en R (FU d f) (tk false c us)
 |[],[],_,_,h,_=>h
 |[],_::_,_,_,_,a=>a.elim
 |_::_,[],_,_,_,a=>a.elim
 |b::f,u::us,d,c,h,a=>by
  unfold FU tk;have i:=h.len;by_cases e:d.length=12
  ·have g:c.length=12:=by omega
   simp only[e,g,if_true,or_true];exact en.DE h a.2
  ·have g:¬c.length=12:=by omega
   simp only[e,g,if_false,apG,or_false];exact en.DE (en.snoc a.1 h) a.2
theorem Ye:∀(a l:List Value),tk true l a=l
 |[],_=>rfl
 |u::a,l=>by
  unfold tk;rw[if_pos (.inl rfl)];exact Ye a l
def vp (a:Bool) (l bs:List iH):List iH:=if a=true then l else FU l bs
theorem en.vp{R bs us b c}(a:Bool)(h:en R b c)(d:en R bs us):en R (vp a b bs) (tk a c us):=by
 cases a with
 |true=>rw[Ye];exact h
 |false=>exact h.DE d
theorem en.maps {α β γ:Type} {R:α->β->Prop} {d:γ->β->Prop} {f:α->γ}:∀{l:List α} {m:List β},(∀a∈l,∀b,R a b->d (f a) b)->en R l m->en d (l.map f) m
 |[],[],_,_=>trivial
 |[],_::_,_,c=>c.elim
 |_::_,[],_,c=>c.elim
 |a::l,b::m,h,c=>⟨h a ao6 b c.1,en.maps (fun a e=>h a (apa _ e)) c.2⟩
def l4 (s:bO) (c:Nat) (gt:Int) (has:Nat->Int) (ops kept:List av) (early:List (PId×av)):bO:={s with gt:=upd s.gt c gt,has:=upd s.has c has,ops:=upd s.ops c ops,kept:=upd s.kept c kept,early:=upd s.early c early}
theorem ahv{l:List Int}{b:Nat->Int}(i:l.length=d)(e:a<d):rowOf (nS l b d) a=max (rowOf l a) (b a):=by
 have c:a<l.length:=by omega
 have f:a<(nS l b d).length:=by rw[zv];exact c
 have g:rowOf (nS l b d) a=(nS l b d)[a]:=by simp[rowOf,f]
 have h:rowOf l a=l[a]:=by simp[rowOf,c]
 rw[g,h,HV _ _ _ _ c,if_pos e]
def DM (s:bO) (d c:Nat) (a:Nat->Int):bO:={s with lI:=upd s.lI d (upd (s.lI d) c fun i=>max (s.lI d c i) (a i))}
theorem ahw(s:bO)(d:Nat)(f:Nat->Nat->Int):({s with gt:=upd s.gt d (s.gt d),has:=upd s.has d (s.has d),ops:=upd s.ops d (s.ops d),gone:=upd s.gone d (s.gone d),kept:=upd s.kept d (s.kept d),early:=upd s.early d (s.early d),lI:=upd s.lI d f}:bO)={s with lI:=upd s.lI d f}:=by
 rw[Bs,Bs,Bs,Bs,Bs,Bs]
theorem Yf(a c:Nat):O 53 #[Z a,.slice none 0 c] b fun e d=>e=.returned (.tuple #[])/\d=b:=by
 go_enter func53,ntmps53;go_wp2;refine wp_loop_rounds 1 ?_;rw[rounds_succ];go_wp2;go_end0
 exact⟨rfl,rfl⟩
theorem ahx{l r}(m:j2 b a d l r f h){p:List Value}{n:Nat}(s:b.ownsRow i 147 1 e n p)(w:n<=1000):
  O 53 #[Z a,e] b fun c q=>c=.returned (.tuple #[])/\∃t,j2 q a d (tk r l p) r t h/\aP (fun k=>k=d) b q:=by
 have x:p.length=n:=by have :=s.1;omega
 rcases s.2 with⟨rfl,D⟩|⟨g,cap,E,rfl,F,I,y,u,L,M⟩
 ·have z:p=[]:=aqg (by omega)
  subst z;refine(Yf a 0).mono ?_;rintro c q ⟨rfl,rfl⟩;exact⟨rfl,f,m,aP.cQ (aoQ _ _)⟩
 ·refine(XU (off:=0) (cap:=cap) (n:=n) (g:=g) m (fun j=>p.getD j .nilIface) w (fun j N=>by
   have :=aqE s j (by omega);have B:j<p.length:=by omega
   rw[apF,this];simp[List.getD,B])).mono ?_
  rintro c q ⟨rfl,t,v,C⟩;have c:(List.range n).map (fun j=>p.getD j .nilIface)=p:=by
   apply aqz
   ·simp[x]
   ·intro o y u
    simp[List.getD,u]
  rw[c]at v;exact⟨rfl,t,v,C⟩
theorem LV{t:TypeId}{f:Nat×Nat}(h:b.heap[a]?=some (.cells #[e] t f)):b.cell? (H a)=some e:=by simp[World.cell?,h]
theorem ahy(a:Option Addr)(n c:Nat)(W:World):(nilAhead 501 115 (.slice a n c) "quire/quire.arrive").run prog W=.ok (some false) W:=by kernel_rfl
theorem ahz(a:Option Addr)(n c:Nat)(W:World):(nilAhead 501 382 (.slice a n c) "quire/quire.arrive").run prog W=.ok (some false) W:=by kernel_rfl
theorem ahA{F I X s x z gk hW}(h:gb b i F I f X s x)(D:d<f)(m:a<f)(E:d≠a)(hr:q9 b gk hW f z)(q8:I gk)(ik:∀c,c<f->0<=z c/\s.has a c<=60)(qo:∀c,c<f->z c<=60)(eP:∀x∈s.kept a,0<=x.op.id.2/\x.op.id.2<f)(cB:((s.kept a).map dX).Nodup):
  O 75 #[Z i,.iface 115 (.slice (some (H gk)) f hW),A d,A a] b fun e w'=>(∃v,e=.returned v)/\∃p,p.Perm ((s.kept a).filter (r2 z))/\x8 p/\zH i f X F I b w' (kX (DM s a d z) a d (vp (s.sh a d) (s.ms a d) ((FI p z (s.has a) f).map (H4 p)))):=by
 obtain⟨S,Y,xg⟩:=h.Bt a d m D (ao5 E);have HQA:=aa (fun W (ab:J b W)=>ahd ((h.af ab).eM a m) (d:Int) Y (hr.af ab) q8 ik qo eP cB);obtain⟨bc,bd⟩:=bh h.blk;have a6:=h.cell m;have hcap:=h.cap;have hN:=h.hN;unfold maxLen at hcap;have LN:(0:Int)<=(a:Int):=ao0 _;have LO:(a:Int)<(f:Int):=by omega
 have r:=aa h;have LX:=aa (And.intro Y (And.intro xg ((h.eM a m).zq _ (fQ Y)).1.1));clear h hr ik qo eP cB q8 Y xg;go_enter func75,ntmps75;have yD:=ahy;have p2:=aa (fun x al=>(r.o.eM a m).jM.chg x al);have nC:=aa (fun(B:World) (l2:dx B (x.ei a) (x.ia a) I f X a (s.gt a) (s.has a) (s.kept a) (s.early a) {x.q a with eb:=fun j=>if j=S then nS ((x.q a).eb S) z f else(x.q a).eb j}) (w:aP (fun k=>k=S) b B) (tj:x.ia a S)=>show ∃L,gb B i F I f X (DM s a d z) L/\c0 F F b B/\L.gl=x.gl/\L.gc=x.gc/\L.gr=x.gr by
  have cw:c0 (x.ia a) (x.ia a) b B:=⟨w.os,w.tape,w.output,w.size,fun k l hF=>w.other k l fun e=>hF (e▸tj),fun k l=>.inl l⟩;obtain⟨L,n,C,_,aw,cY,iJ,_⟩:=r.o.X1 m l2 cw (fun _ y=>y) (fun _ y=>.inl y) (gone':=s.gone a) (ops':=s.ops a) (nw':=upd (s.lI a) d fun c=>max (s.lI a d c) (z c)) (r.o.kH a m) (r.o.mU a m) rfl (fun e he hde g U c hi=>by
   by_cases M:e=d
   ·subst M
    rw[LX.o.1]at U;cases U;simp only[if_true,bN];rw[ahv LX.o.2.2 hi,LX.o.2.1 c hi]
   ·have br:g≠S:=fun e'=>M (by
     rw[e']at U;have :=(r.o.FQ a m).1 _ _ _ U LX.o.1;omega)
    simp only[if_neg br];rw[ck _ _ M];obtain⟨g',fX,aH⟩:=r.o.Bt a e m he hde;rw[U]at fX;cases fX;exact aH c hi)
  have Yg:(fun k=>F k\/x.ia a k)=F:=by
   funext k;exact propext ⟨fun l=>l.elim id (r.o.sub a m k),.inl⟩
  rw[ahw,Yg]at n;rw[Yg]at C;exact⟨L,n,C,aw,cY,iJ⟩)
 go_wp2_with fail
 go_region_with (first |(go_at_call 273;refine(HQA.o _ (aoQ _ _).drew).mono ?_;rintro e B ⟨v,aB,p,dp,de,rfl,P,au,N,l2,w,tj⟩;obtain⟨L,n,C,CA,M,mL⟩:=nC.o B l2 ⟨w.os,w.tape,w.output,w.size,w.other⟩ tj;have aT:=aa (And.intro P (And.intro au (And.intro N (And.intro n (And.intro C (And.intro CA (And.intro M mL)))))));have kA:=n.find m D (ao5 E) false B (aoQ _ _);simp only[apG,if_false]at kA;replace bd:=(bh n.blk).2;have QP:=aa (ahx (n.link a d m D (ao5 E)) N.2.1 (aoS (Nat.le_of_eq (LI _ _ _)) (by rw[ap4];omega)));clear P au N l2 w tj n C CA M mL))
 all_goals clear bc a6
 all_goals go_wp2_with fail
 all_goals refine QP.o.mono ?_
 all_goals rintro e w2 ⟨rfl,vm,lg,Q⟩
 all_goals(have hv:=aa (And.intro lg Q);clear lg Q)
 all_goals go_wp2
 all_goals go_end0
 all_goals
  obtain⟨P,au,N,n,C,CA,M,mL⟩:=aT.o;obtain⟨lg,Q⟩:=hv.o;have hblk:∀k,(Value.slice dp p.length de).ownBlock=some k->b.heap.size<=k/\k<B.heap.size:=fun k l=>aoT N.1 k l
  have ye:=n.zr (I':=fun k=>I k\/(Value.slice dp p.length de).ownBlock=some k) (fun k l=>.inl l) (fun k l=>l.elim (n.cJ k) fun R=>(hblk k R).2) (fun k l hF=>l.elim (fun h1=>r.o.eT k h1 hF) fun R=>by have :=(hblk k R).1;have :=r.o.lt k hF;omega);have hlen:p.length<=300:=by
   have h1:=P.length_eq;have R:=apK (r2 z) (s.kept a);have ak:=(r.o.eM a m).jM.len;omega
  have wA:∀y∈p,pF B (fun k=>I k\/(Value.slice dp p.length de).ownBlock=some k) (.iface y.t y.v) y.op.chg:=fun y az=>(p2.o y (apA.1 (P.mem_iff.1 az)).1).gU (fun k l=>C.other k (r.o.cJ k l) (r.o.eT k l)) (fun k l=>.inl l)
  have iI:en (r3 B (fun k=>I k\/(Value.slice dp p.length de).ownBlock=some k)) ((FI p z (s.has a) f).map (H4 p)) aB:=en.maps (fun j ab u hu=>ahb N.1 hlen wA (fun k l=>.inr l) (aha ab) hu) N.2.2;have hR2:=ye.Ih m D (ao5 E) lg Q ((ye.wz a d m D (ao5 E)).vp _ iI);refine⟨⟨_,rfl⟩,p,P,au,F,_,_,hR2,?_,fun k l=>⟨.inl l,?_⟩,fun k l=>l.imp id fun R=>(hblk k R).1⟩
  ·have cF:=QO (F:=F) (aoQ _ _) Q (n.dK a d m D (ao5 E)).2
   exact C.trans cF
  ·exact(Q.other k (n.cJ k l) fun e=>n.eT k l (e▸(n.dK a d m D (ao5 E)).2)).trans (C.other k (r.o.cJ k l) (r.o.eT k l))
def nW (s:bO) (d:Nat) (a:List av):List (PId×av):=iF (s.has d) (s.early d) a
def mW (N:Nat) (s:bO) (d:Nat) (a:List av):List av:=iq (nW s d a) (s.has d) N
def r5 (N:Nat) (s:bO) (d:Nat) (a:List av) (early:List (PId×av)):bO:=l4 s d (nw (s.gt d) (mW N s d a)) (hasAll (s.has d) (mW N s d a)) (ja (s.ops d) (mW N s d a)) (ja (s.kept d) (mW N s d a)) early
theorem ahB{F I v s x}(h:gb b i F I d v s x)(U:f<d)(q:a<d)(X:f≠a)(j:List av)(w:opsV b I e j)(z:∀y∈j,0<=y.op.id.2/\y.op.id.2<d)(B:((nW s a j).map (·.1)).Nodup)(C:∀p∈nW s a j,p.1.2<=60)(D:∀c,c<d->0<=s.has a c/\s.has a c<=1000)(E:((mW d s a j++s.kept a).map fun o=>o.op.id).Nodup)(L:(s.kept a).length+(mW d s a j).length<=300)(M:ja (s.ops a) (mW d s a j)=s.gone a++ja (s.kept a) (mW d s a j))(N:∀y∈mW d s a j,0<=y.op.id.2/\y.op.id.2<d):
  O 75 #[Z i,.iface 382 e,A f,A a] b fun g Y=>(∃e,g=.returned e)/\∃r,vh (nW s a j) (qm (nW s a j) (s.has a) d) r/\zH i d v F I b Y (r5 d s a j r):=by
 have bM:=aa (fun W (P:J b W)=>ahe ((h.af P).eM a q) j (w.gU (fun k l=>P.block k (h.cJ k l)) (fun _ y=>y)) z B C D E L N (f:Int));obtain⟨dp,de,rfl,_⟩:=w;obtain⟨bc,bd⟩:=bh h.blk;have a6:=h.cell q;have hcap:=h.cap;have hN:=h.hN;unfold maxLen at hcap;have LN:(0:Int)<=(a:Int):=ao0 _;have LO:(a:Int)<(d:Int):=by omega
 have u:=aa h;have ahC:=aa M;clear M;clear h z B C D E L N;go_enter func75,ntmps75;have yD:=ahz;go_wp2_with fail
 go_region_with (first |(go_at_call 308;refine(bM.o _ (aoQ _ _).drew).mono ?_;rintro g w1 ⟨rfl,aS,fV,r,Q,t,R,S⟩;obtain⟨x1,m,n,_,CA,gN,mL,_⟩:=u.o.QL q Q (S.before (aoQ _ _).drew) (fun _ y=>y) (fun _ y=>.inl y) R ahC.o;have aT:=aa (And.intro t (And.intro m n));have kA:=m.find q U (ao5 X) false w1 (aoQ _ _);simp only[apG,if_false]at kA;replace bd:=(bh m.blk).2;clear Q t R S m n CA gN mL))
 all_goals clear bc a6
 all_goals go_wp2_with fail
 all_goals refine(Yf _ _).mono ?_
 all_goals rintro g w2 ⟨rfl,rfl⟩
 all_goals go_wp2
 all_goals go_end0
 all_goals
  obtain⟨t,m,n⟩:=aT.o;exact⟨⟨_,rfl⟩,r,t,_,I,x1,m,n,fun k l=>⟨l,n.other k (u.o.cJ k l) (u.o.eT k l)⟩,fun _ l=>.inl l⟩
end
end Go.Proofs.YtnkpogjiiohapaaGreatDoor
