/- Our own text. -/
import Derived.Deep.DeepCutAuto
import Derived.Deep.RegionHeld3
import Derived.Deep.DrawnRows
import Derived.Test.YtnkpogjiiohapaaGreatDoorA35
import Derived.Test.YtnkpogjiiohapaaGreatDoorA06
set_option linter.unusedSimpArgs false
set_option linter.unusedVariables false
set_option maxRecDepth 1000000
set_option maxHeartbeats 8000000
namespace Go.Proofs.YtnkpogjiiohapaaGreatDoor
section
open Go.RowKit Tryz
variable {a j l n q F:Nat}{b:List PId}{d e B:World}{f k m L:Nat->Prop}{h I:Value}{i:gW}{r u z C:Int}{s E:PId}{v:List ba}{w:ByteArray}{y:List bu}{D:Bool}
structure Loc (w0 w w1 cc:World):Prop where
 os:cc.os=w1.os
 tape:cc.tape=w1.tape
 output:cc.output=w1.output
 size:w1.heap.size<=cc.heap.size
 other:∀k,k<w1.heap.size->(k<w0.heap.size\/w.heap.size<=k)->cc.heap[k]?=w1.heap[k]?
theorem Loc.grow{a}{c:World}(h:Loc d e B a)(b:J a c):Loc d e B c:=⟨b.os.trans h.os,b.tape.trans h.tape,b.output.trans h.output,aoS h.size b.size,fun k f g=>(b.block k (aoV f h.size)).trans (h.other k f g)⟩
theorem Loc.cQ{w:World}(h:J d e):Loc B w d e:=⟨h.os,h.tape,h.output,h.size,fun k a _=>h.block k a⟩
def Duo (c w:World) (d:Nat) (F:Nat->Prop) (x r:Nat) (h:Value) (i:List PId) (N j:Nat) (l:Nat) (args:Array Value) (v:Value) (a:World):Prop:=
 a.heap[d]?=c.heap[d]?/\(∀k,k<w.heap.size->¬F k->a.heap[k]?=w.heap[k]?)/\w.heap.size<=a.heap.size/\
  ∀b,Loc c w a b->O l args b fun e f=>e=.returned v/\(∃g m n P',gX f d g x r h i m n N j P'/\c0 F g c f/\∀k,g k->F k\/(w.heap.size<=k/\k<a.heap.size)\/b.heap.size<=k)/\∀k,c.heap.size<=k->(k<w.heap.size\/a.heap.size<=k)->k<b.heap.size->f.heap[k]?=b.heap[k]?
theorem Gm:ka 0:=⟨by decide,by decide⟩
theorem akV(h:km w=true):w.size<=4:=by
 unfold km at h;simp at h;omega
theorem SB{l:List cE}(h:lQ v s w=.ok l):w.size<=4:=by
 apply akV;unfold lQ at h;split at h
 ·cases h
 ·split at h
  ·assumption
  ·cases h
theorem SC(a:ka r)(c:w.size<=4):r7 (xN u z C s w r E b):=⟨a,c⟩
theorem SD{o:PId}(a:ka r):r7 (sP u z C s E r o b):=⟨a,aoR _⟩
theorem aaF:r7 (qe r u D):=⟨Gm,aoR _⟩
theorem aaG:r7 (tR r u s E):=⟨Gm,aoR _⟩
theorem akW(c:ka r)(h:tS v u a z s w r=.ok y):a+y.length<=60/\∀p∈y,r7 p:=by
 unfold tS at h;split at h
 ·cases h
 ·next e d=>
  split at h
  ·cases h
   exact⟨by simp only[apd,apv];omega,fun p b=>by rw[ao2]at b;rw[b];exact SC c (SB d)⟩
  ·cases h
theorem akX(h:sQ v r a u s w=.ok y):a+y.length<=60/\∀p∈y,r7 p:=by
 unfold sQ at h;split at h
 ·cases h
 ·next d c=>
  split at h
  ·cases h
  ·split at h
   ·cases h
    exact⟨by simp only[apd,apv];omega,fun p b=>by rw[ao2]at b;rw[b];exact SC Gm (SB c)⟩
   ·cases h
theorem akY(h:tT v r a u s w D=.ok y):a+y.length<=60/\∀p∈y,r7 p:=by
 unfold tT at h;split at h
 ·cases h
 ·next d c=>
  split at h
  ·cases h
   refine⟨by simp only[apd,apv];omega,fun p b=> ?_⟩;rcases ao3.1 b with rfl|b
   ·exact aaF
   ·rw[ao2]at b;rw[b];exact SC Gm (SB c)
  ·cases h
theorem aaH{k:Int}(c:ka r)(h:kE v u a z s C k r=.ok y):a+y.length<=60/\∀p∈y,r7 p:=by
 unfold kE at h;split at h
 ·cases h
 ·split at h
  ·cases h
  ·split at h
   ·cases h
    exact⟨by simp only[apd,apv];omega,fun p b=>by rw[ao2]at b;rw[b];exact SD c⟩
   ·cases h
theorem akZ(c:ka r)(h:sR v u a z s C r=.ok y):a+y.length<=60/\∀p∈y,r7 p:=by
 unfold sR at h;split at h
 ·cases h
 ·split at h
  ·cases h
  ·split at h
   ·cases h
    refine⟨by simp only[apd,apv];omega,fun p b=> ?_⟩;rcases ao3.1 b with rfl|b
    ·exact aaG
    ·rw[ao2]at b;rw[b];exact SD c
   ·cases h
theorem ak0(h:sS v r a u s z D=.ok y):a+y.length<=60/\∀p∈y,r7 p:=by
 unfold sS at h;split at h
 ·cases h
 ·split at h
  ·cases h
  ·split at h
   ·cases h
    refine⟨by simp only[apd,apv];omega,fun p b=> ?_⟩;rcases ao3.1 b with rfl|b
    ·exact aaF
    ·rcases ao3.1 b with rfl|b
     ·exact aaG
     ·rw[ao2]at b;rw[b];exact SD Gm
   ·cases h
theorem aaI{w}(g:gX d a m l q h b k L j n i)(r:J d e)(x:uu B l f j n w)(o:c0 k f e B):(B.heap[a]?=d.heap[a]?/\(∀c,c<e.heap.size->¬m c->B.heap[c]?=e.heap[c]?)/\e.heap.size<=B.heap.size)/\
  ∀s,Loc d e B s->c0 k f d s/\uu s l f j n w/\tv s q L j i:=by
 have u:=r.size;refine⟨⟨(o.other a (aoV (g.lt _ g.fr) u) g.Ec).trans (r.block a (g.lt _ g.fr)),fun c t hF=>o.other c t fun z=>hF (g.B0 c z),o.size⟩,fun s p=> ?_⟩;have y:c0 k f d s:=⟨p.os.trans (o.os.trans r.os),p.tape.trans (o.tape.trans r.tape),p.output.trans (o.output.trans r.output),aoS (aoS u o.size) p.size,
  fun c t hF=>(p.other c (aoV t (aoS u o.size)) (.inl t)).trans ((o.other c (aoV t u) hF).trans (r.block c t)),fun c hF=>(o.sub c hF).imp id fun v=>aoS u v⟩
 refine⟨y,x.gB p.size fun c hF=>p.other c (x.lt c hF) ?_,(g.prog y).2.1⟩;rcases o.sub c hF with v|v
 ·exact .inl (g.fs.lt c v)
 ·exact .inr v
theorem Jp{P'}(g:gX d q k l j h b m f a n i)(y:J d e){args:Array Value}(z:BZ m a n P' l e B)(hrel:Gj a P')(C:∀p,tv p j f a i->O F args p fun o u=>o=.returned I/\Jg f a P' j p u):Duo d e q k l j h b a n F args I B:=by
 obtain⟨D,v,w⟩:=z;obtain⟨⟨E,L,M⟩,s⟩:=aaI g y v w;refine⟨E,L,M,fun p N=> ?_⟩;obtain⟨P,Q,R⟩:=s p N;refine(C p R).mono fun o u x=> ?_
 obtain⟨S,U,t⟩:=x.2;refine⟨x.1,?_,fun c hp _ W=>t.other c W fun hF=>by have :=g.kT.lt c hF;omega⟩;obtain⟨X,s,Y,eR⟩:=g.both P Q t U hrel;refine⟨X,D,S,_,s,Y,fun c hkF=> ?_⟩;rcases eR c hkF with r|r|r
 ·exact .inl r
 ·exact(w.sub c r).imp (g.B0 c) fun tV=>.inl ⟨tV,v.lt c r⟩
 ·exact(t.sub c r).imp (g.cd c) .inr
theorem wW(c:gX d l f n a h b k m j q i)(s:J d e){args:Array Value}(w:J e B)(x:∀p f L o r,da p a f L o j i.S r->O F args p fun g t=>g=.returned I/\J p t):Duo d e l f n a h b j q F args I B:=by
 refine Jp c s (.left (c.af s).fs w) c.rel fun p u=> ?_
 obtain⟨y,z,C,r,D,_⟩:=id u;exact(x p y z C r D).mono fun g t v=>⟨v.1,.left u v.2⟩
theorem Eh{cC c j4}(g:gX e F f n l h b L cC j q i)(bb:J e d){W:Nat}{args:Array Value}(R:a<j)(ai:dJ d n k m j q i.M i.s j4)(ea:∀v,k v\/m v->L v){pl:Int->Nat->Except Int (List bu)}{E:Int->Value}{Y:Int->Value}(fl:∀t x y,pl t x=.ok y->x+y.length<=60/\∀p∈y,r7 p)(ak1:BI n j q k m i.M i.s j4 a (pl (i.s.gt a) (i.M a).length) (fun r=>.returned (E r)) (.returned (Y (i.s.gt a))) d c B)(X:∀D f w I N,da D l f w I j i.S N->Own j i.S.P i.S.has a ((i.s.ops a).map fun o=>eU o.op)->O W args D fun c U=>(∃r,pl (bZ ((i.s.ops a).map fun o=>eU o.op)) (i.S.P a).length=.error r/\c=.returned (E r)/\kK l j f w I N.cO D U i.S)\/(∃y,pl (bZ ((i.s.ops a).map fun o=>eU o.op)) (i.S.P a).length=.ok y/\c=.returned (Y (bZ ((i.s.ops a).map fun o=>eU o.op)))/\kK l j f w I N.cO D U (jB i.S a y))):
  (∃r,c=.returned (E r)/\Duo e d F f n l h b j q W args (E r) B)\/(c=.returned (Y (i.s.gt a))/\Duo e d F f n l h b j q W args (Y (i.s.gt a)) B):=by
 have bm:=g.rel.own ai R;have lu:=g.rel.rel.gt a R;have sJ:(i.M a).length=(i.S.P a).length:=by rw[<-g.rel.rel.made a R,aoU]
 rw[<-lu,<-sJ]at X;rcases ak1 with⟨r,P,rfl,h2⟩|⟨y,M',fe,P,rfl,lB,h2⟩
 ·refine .inl ⟨r,rfl,Jp g bb (P':=i) (.of i.S ea h2) g.rel fun D aI=> ?_⟩
  obtain⟨aS,gd,I',N,C,ab,_⟩:=aI;refine(X D aS gd I' N C bm).mono fun c U ay=> ?_
  rcases ay with⟨m2,z,rfl,aL⟩|⟨y,z,_⟩
  ·rw[P]at z;cases z;exact⟨rfl,.of i.M i.s ab aL⟩
  ·rw[P]at z;cases z
 ·have ag:=fl _ _ _ P
  have bB:=g.rel.rel.wrote R y (ai.ok.own a R) lB;refine .inr ⟨rfl,Jp g bb (P':=⟨M',fe,jB i.S a y⟩) (.of _ ea h2) ⟨bB,g.rel.BX.wrote (by rw[aoW,<-sJ];exact ag.1),fun u gL o ae=> ?_⟩ fun D aI=> ?_⟩
  ·have Q:eU o.op∈(jB i.S a y).P u:=by
    rw[<-bB.made u gL];exact aoX.2 ⟨o,ae,rfl⟩
   unfold jB at Q;simp only at Q;have old:∀c,c<j->eU o.op∈i.S.P c->r7 (eU o.op):=fun c he C=>by
    rw[<-g.rel.rel.made c he]at C;obtain⟨o',fY,e'⟩:=aoX.1 C;rw[<-e'];exact g.rel.nice c he o' fY
   by_cases c:u=a
   ·subst c
    rw[bN]at Q;rcases aoZ.1 Q with C|C
    ·exact old u gL C
    ·exact ag.2 _ C
   ·rw[ck _ _ c]at Q
    exact old u gL Q
  ·obtain⟨aS,gd,I',N,C,ab,_⟩:=aI
   refine(X D aS gd I' N C bm).mono fun c U ay=> ?_
   rcases ay with⟨m2,z,_⟩|⟨ps2,z,rfl,aL⟩
   ·rw[P]at z;cases z
   ·rw[P]at z;cases z;exact⟨rfl,.of M' fe ab aL⟩
theorem ak2(p:gX d n f j l h b k m a q i)(y:J d e)(C:Int)(v w g:Int)(P:ka g)(u:ByteArray)(L:u.size<=maxLen):
  O 23 #[Z j,A C,.agg #[A v,A w],.string u,A g] e fun r z=>∃o,r=.returned (A o)/\Duo d e n f j l h b a q 94 #[Z l,A C,.agg #[A v,A w],.string u,A g] (A o) z:=by
 obtain⟨W,X,j4,B,Q,_⟩:=(p.af y).fs;by_cases M:0<=C/\C<a
 ·obtain⟨c,rfl⟩:∃c:Nat,C=c:=⟨C.toNat,by omega⟩
  have N:c<a:=by omega
  refine(B.aiD N v w g u L).mono fun r z x=> ?_
  rcases Eh p y N B Q (pl:=fun t R=>tS (cn (i.s.ops c)) t R c (v,w) u g) (E:=fun o=>A o) (Y:=fun _=>A 0) (fun _ _ _=>akW P) x (fun S _ _ _ _ D U=>aji D U v w g u L) with⟨o,F,I⟩|⟨F,I⟩
  ·exact⟨o,F,I⟩
  ·exact⟨0,F,I⟩
 ·exact(aiK B.m.jO C M v w g u).mono fun r z x=>⟨2,x.1,wW p y x.2 fun S _ _ _ _ D=>afM D.cx.room C v w g u M⟩
theorem ak3(o:gX d n f j l h b k m a q i)(x:J d e)(C:Int)(u v:Int)(r:ByteArray)(I:r.size<=maxLen):
  O 78 #[Z j,A C,.agg #[A u,A v],.string r] e fun p y=>∃g,p=.returned (A g)/\Duo d e n f j l h b a q 97 #[Z l,A C,.agg #[A u,A v],.string r] (A g) y:=by
 obtain⟨S,U,W,z,N,_⟩:=(o.af x).fs;by_cases L:0<=C/\C<a
 ·obtain⟨c,rfl⟩:∃c:Nat,C=c:=⟨C.toNat,by omega⟩
  have M:c<a:=by omega
  refine(z.aiE M u v r I).mono fun p y w=> ?_
  rcases Eh o x M z N (pl:=fun t P=>sQ (cn (i.s.ops c)) t P c (u,v) r) (E:=fun g=>A g) (Y:=fun _=>A 0) (fun _ _ _=>akX) w (fun Q _ _ _ _ B R=>ajk B R u v r I) with⟨g,D,F⟩|⟨D,F⟩
  ·exact⟨g,D,F⟩
  ·exact⟨0,D,F⟩
 ·exact(aiL z.m.jO C L u v r).mono fun p y w=>⟨2,w.1,wW o x w.2 fun Q _ _ _ _ B=>afO B.cx.room C u v r L⟩
theorem ak4(r:gX d n f j l h b k m a q i)(y:J d e)(C:Int)(v w o g:Int)(N:ka g):
  O 33 #[Z j,A C,.agg #[A v,A w],A o,A g] e fun u z=>∃p,u=.returned (A p)/\Duo d e n f j l h b a q 101 #[Z l,A C,.agg #[A v,A w],A o,A g] (A p) z:=by
 obtain⟨U,W,X,B,P,_⟩:=(r.af y).fs;by_cases L:0<=C/\C<a
 ·obtain⟨c,rfl⟩:∃c:Nat,C=c:=⟨C.toNat,by omega⟩
  have M:c<a:=by omega
  refine(B.aiF M v w o g).mono fun u z x=> ?_
  rcases Eh r y M B P (pl:=fun t Q=>kE (cn (i.s.ops c)) t Q c (v,w) o 3 g) (E:=fun p=>A p) (Y:=fun _=>A 0) (fun _ _ _=>aaH N) x (fun R _ _ _ _ D S=>ajn D S v w o g) with⟨p,F,I⟩|⟨F,I⟩
  ·exact⟨p,F,I⟩
  ·exact⟨0,F,I⟩
 ·exact(aiM B.m.jO C L v w o g).mono fun u z x=>⟨2,x.1,wW r y x.2 fun R _ _ _ _ D=>afR D.cx.room C v w o g L⟩
theorem ak5(p:gX d n f j l h b k m a q i)(x:J d e)(C:Int)(u v g:Int):
  O 34 #[Z j,A C,.agg #[A u,A v],A g] e fun r y=>∃o,r=.returned (A o)/\Duo d e n f j l h b a q 102 #[Z l,A C,.agg #[A u,A v],A g] (A o) y:=by
 obtain⟨R,S,U,z,M,_⟩:=(p.af x).fs;by_cases I:0<=C/\C<a
 ·obtain⟨c,rfl⟩:∃c:Nat,C=c:=⟨C.toNat,by omega⟩
  have L:c<a:=by omega
  refine(z.aiG L u v g).mono fun r y w=> ?_
  rcases Eh p x L z M (pl:=fun t N=>kE (cn (i.s.ops c)) t N c (u,v) g 4 0) (E:=fun o=>A o) (Y:=fun _=>A 0) (fun _ _ _=>aaH Gm) w (fun P _ _ _ _ B Q=>ajo B Q u v g) with⟨o,D,F⟩|⟨D,F⟩
  ·exact⟨o,D,F⟩
  ·exact⟨0,D,F⟩
 ·exact(aiN z.m.jO C I u v g).mono fun r y w=>⟨2,w.1,wW p x w.2 fun P _ _ _ _ B=>afS B.cx.room C u v g I⟩
theorem ak6(o:gX d n f j l h b k m a q i)(y:J d e)(C:Int)(u v:Int)(r:ByteArray)(L:r.size<=maxLen)(w:Bool):
  O 38 #[Z j,A C,.agg #[A u,A v],.string r,.bool w] e fun p z=>∃M N g,p=.returned (.tuple #[.agg #[A M,A N],A g])/\Duo d e n f j l h b a q 95 #[Z l,A C,.agg #[A u,A v],.string r,.bool w] (.tuple #[.agg #[A M,A N],A g]) z:=by
 obtain⟨X,qE,j4,B,R,_⟩:=(o.af y).fs;by_cases P:0<=C/\C<a
 ·obtain⟨c,rfl⟩:∃c:Nat,C=c:=⟨C.toNat,by omega⟩
  have Q:c<a:=by omega
  refine(B.aiH Q u v r L w).mono fun p z x=> ?_
  rcases Eh o y Q B R (pl:=fun t S=>tT (cn (i.s.ops c)) t S c (u,v) r w) (E:=fun g=>.tuple #[.agg #[A 0,A 0],A g]) (Y:=fun t=>.tuple #[.agg #[A (t+1),A c],A 0]) (fun _ _ _=>akY) x (fun U _ _ _ _ D W=>ajj D W u v r L w) with⟨g,F,I⟩|⟨F,I⟩
  ·exact⟨0,0,g,F,I⟩
  ·exact⟨_,_,0,F,I⟩
 ·exact(aiO B.m.jO C P u v r w).mono fun p z x=>⟨0,0,2,x.1,wW o y x.2 fun U _ _ _ _ D=>afN D.cx.room C u v r w P⟩
theorem ak7(r:gX d n f j l h b k m a q i)(y:J d e)(C:Int)(v w o g:Int)(Q:ka g):
  O 32 #[Z j,A C,.agg #[A v,A w],A o,A g] e fun u z=>∃L M p,u=.returned (.tuple #[.agg #[A L,A M],A p])/\Duo d e n f j l h b a q 98 #[Z l,A C,.agg #[A v,A w],A o,A g] (.tuple #[.agg #[A L,A M],A p]) z:=by
 obtain⟨X,qE,j4,B,R,_⟩:=(r.af y).fs;by_cases N:0<=C/\C<a
 ·obtain⟨c,rfl⟩:∃c:Nat,C=c:=⟨C.toNat,by omega⟩
  have P:c<a:=by omega
  refine(B.aiI P v w o g).mono fun u z x=> ?_
  rcases Eh r y P B R (pl:=fun t S=>sR (cn (i.s.ops c)) t S c (v,w) o g) (E:=fun p=>.tuple #[.agg #[A 0,A 0],A p]) (Y:=fun t=>.tuple #[.agg #[A (t+1),A c],A 0]) (fun _ _ _=>akZ Q) x (fun U _ _ _ _ D W=>ajl D W v w o g) with⟨p,F,I⟩|⟨F,I⟩
  ·exact⟨0,0,p,F,I⟩
  ·exact⟨_,_,0,F,I⟩
 ·exact(aiP B.m.jO C N v w o g).mono fun u z x=>⟨0,0,2,x.1,wW r y x.2 fun U _ _ _ _ D=>afP D.cx.room C v w o g N⟩
theorem ak8(p:gX d n f j l h b k m a q i)(y:J d e)(C:Int)(u v g:Int)(w:Bool):
  O 99 #[Z j,A C,.agg #[A u,A v],A g,.bool w] e fun r z=>∃L M o,r=.returned (.tuple #[.agg #[A L,A M],A o])/\Duo d e n f j l h b a q 100 #[Z l,A C,.agg #[A u,A v],A g,.bool w] (.tuple #[.agg #[A L,A M],A o]) z:=by
 obtain⟨W,X,j4,B,Q,_⟩:=(p.af y).fs;by_cases N:0<=C/\C<a
 ·obtain⟨c,rfl⟩:∃c:Nat,C=c:=⟨C.toNat,by omega⟩
  have P:c<a:=by omega
  refine(B.aiJ P u v g w).mono fun r z x=> ?_
  rcases Eh p y P B Q (pl:=fun t R=>sS (cn (i.s.ops c)) t R c (u,v) g w) (E:=fun o=>.tuple #[.agg #[A 0,A 0],A o]) (Y:=fun t=>.tuple #[.agg #[A (t+1),A c],A 0]) (fun _ _ _=>ak0) x (fun S _ _ _ _ D U=>ajm D U u v g w) with⟨o,F,I⟩|⟨F,I⟩
  ·exact⟨0,0,o,F,I⟩
  ·exact⟨_,_,0,F,I⟩
 ·exact(aiQ B.m.jO C N u v g w).mono fun r z x=>⟨0,0,2,x.1,wW p y x.2 fun S _ _ _ _ D=>afQ D.cx.room C u v g w N⟩
end
section
open Go.RowKit Tryz
attribute [local go_sem ↓] Go.wp_at_zero Go.wp_at_succ
variable {a m w:World}{b d k l n q:Nat}{e:Nat->Prop}{f r v:Value}{h j s:Int}{i:List PId}{u:Obj}
structure jD where
 kind:Int
 r:Int
 c:Int
 d:Int
 i1:Int
 i2:Int
 made:Int
 key:ByteArray
 a:Int
 b:Int
 yes:Bool
def Jq (o:jD):Array Value:= #[A o.kind,A o.r,A o.c,A o.d,A o.i1,A o.i2,A o.made,.string o.key,A o.a,A o.b,.bool o.yes]
structure pV (o:jD):Prop where
 r:ka o.r
 made:ka o.made
 a:ka o.a
 b:ka o.b
 key:o.key.size<=maxLen
theorem ep{m n c o e g:Int}{i:ByteArray}{yes:Bool}(p:a.heap[d]?=some (.cells #[Z k,Z l,f] 135 (0,0)))(q:a.heap[b]?=some (.cells #[A h,A m,A j,A n,A s,A c,A o,.string i,A e,A g,.bool yes] 87 (0,0))):
  a.cell? (H d)=some (Z k)/\a.cell? (K d 1)=some (Z l)/\a.cell? (H b)=some (A h)/\a.cell? (K b 2)=some (A j)/\a.cell? (K b 4)=some (A s)/\a.cell? (K b 5)=some (A c)/\a.cell? (K b 7)=some (.string i)/\a.cell? (K b 8)=some (A e)/\a.cell? (K b 9)=some (A g)/\a.cell? (K b 10)=some (.bool yes):=by
 refine⟨?_,?_,?_,?_,?_,?_,?_,?_,?_,?_⟩<;>simp[World.cell?,p,q]
structure Gn (w:World) (aJ:Nat) (F:Nat->Prop) (x r:Nat) (bC:Value) (told:List PId) (N sp:Nat) (ll:Nat) (args:Array Value) (box:Obj) (hx:Nat) (i1 i2 m:Int) (wc:World):Prop where
 a:wc.heap[hx]?=some (.cells #[A i1,A i2] 36 (0,0))
 g:wc.heap[aJ]?=w.heap[aJ]?
 b:wc.heap[w.heap.size]?=some box
 next :∀cc,J wc cc->O ll args cc fun e w2=>e=.returned (.tuple #[.agg #[A i1,A i2],A m])/\(∃aS eF fK P',gX w2 aJ aS x r bC told eF fK N sp P'/\c0 F aS w w2/\∀k,wc.heap.size<=k->k<cc.heap.size->¬aS k)/\w2.heap[hx]?=some (.cells #[A i1,A i2] 36 (0,0))/\w2.heap[w.heap.size]?=some box/\∀k,wc.heap.size<=k->k<cc.heap.size->w2.heap[k]?=cc.heap[k]?
theorem aaJ{wc y args}(hF:∀c,e c->c<a.heap.size)(B:e d)(C:Duo a m d e k l f i n q y args (.tuple #[.agg #[A h,A j],A s]) w)(D:a.heap.size<m.heap.size)(r:Loc a m w wc)(t:wc.heap[b]?=some (.cells #[A h,A j] 36 (0,0)))(E:a.heap.size<=b)(F:b<m.heap.size\/w.heap.size<=b)(v:wc.heap[a.heap.size]?=some u):Gn a d e k l f i n q y args u b h j s wc:=by
 obtain⟨I,h2,ak,L⟩:=C;have M:=hF d B;refine⟨t,(r.other d (by omega) (.inl M)).trans I,v,fun N p=>(L N (r.grow p)).mono fun o w2 P=> ?_⟩;obtain⟨Q,⟨R,S,U,W,X,Y,ad⟩,x⟩:=P;have hz1:=r.size;have hz2:=p.size;have nx:=aM t;have fN:=aM v;refine⟨Q,⟨R,S,U,W,X,Y,fun c c3 z PX=> ?_⟩,?_,?_,fun c c3 z=>x c (by omega) (.inr (by omega)) z⟩
 ·rcases ad c PX with g|g|g
  ·have :=hF c g;omega
  ·omega
  ·omega
 ·rw[x b E F (by omega),p.block b nx];exact t
 ·rw[x a.heap.size (aoP _) (.inl D) (by omega),p.block _ fN];exact v
theorem SE{args}(hF:∀g,e g->g<a.heap.size)(t:e b)(o:Duo a ((a.alloc u).alloc (.cells #[r,v] 36)).drew b e d k f i l n q args (.tuple #[.agg #[A h,A j],A s]) m):
  Gn a b e d k f i l n q args u (a.heap.size+1) h j s ((m.setCell (H (a.heap.size+1)) (A h)).setCell (K (a.heap.size+1) 1) (A j)):=by
 have w:=o;obtain⟨C,p,x,D⟩:=o;simp at x;have y:m.heap[a.heap.size+1]?=some (.cells #[r,v] 36 (0,0)):=(p _ (by simp) (fun c=>by have :=hF _ c;omega)).trans (mY (by simp));have z:m.heap[a.heap.size]?=some u:=(p _ (by simp;omega) (fun c=>by have :=hF _ c;omega)).trans ((ec (by simp)).trans (bL a _));refine aaJ hF t w (by simp;omega) ⟨rfl,rfl,rfl,by simp[World.setCell],fun g E B=> ?_⟩ (aaw y) (by omega) (.inl (by simp)) ((dI (by omega)).trans ((dI (by omega)).trans z));have :g≠a.heap.size+1:=by
  rcases B with c|c
  ·omega
  ·simp at c;omega
 exact(dI this).trans (dI this)
theorem SF{args}(hF:∀c,e c->c<a.heap.size)(p:e b)(o:Duo a (a.alloc u).drew b e d k f i l n q args (.tuple #[.agg #[A h,A j],A s]) m):
  Gn a b e d k f i l n q args u m.heap.size h j s (m.alloc (.cells #[A h,A j] 36)):=by
 have r:=o;obtain⟨x,t,v,y⟩:=o;simp at v;have w:m.heap[a.heap.size]?=some u:=(t _ (by simp) (fun g=>by have :=hF _ g;omega)).trans (bL a _);exact aaJ hF p r (by simp) (Loc.cQ ((aoQ _ m).alloc (aoP _) _)) (bL m _) (by omega) (.inr (aoP _)) ((ec (by omega)).trans w)
structure Jr (w:World) (aJ:Nat) (F:Nat->Prop) (x r:Nat) (bC:Value) (told:List PId) (N sp:Nat) (hx j0:Nat) (i1 i2:Int) (wc:World):Prop where
 a:wc.heap[hx]?=some (.cells #[A i1,A i2] 36 (0,0))
 b:wc.heap[j0]?=some (.cells #[A i1,A i2] 36 (0,0))
 pair:∃aS eF fK P',gX wc aJ aS x r bC told eF fK N sp P'/\c0 F aS w wc
theorem SG{wc:World}(w:m.heap.size<=wc.heap.size)(F:b<wc.heap.size)(x:∃o p s t,gX a d o k l v i p s n q t/\c0 e o m a/\∀c,wc.heap.size<=c->c<(wc.alloc (.cells #[f,r] 36)).drew.heap.size->¬o c)(y:a.heap[b]?=some (.cells #[A h,A j] 36 (0,0)))(z:∀c,wc.heap.size<=c->c<(wc.alloc (.cells #[f,r] 36)).drew.heap.size->a.heap[c]?=(wc.alloc (.cells #[f,r] 36)).drew.heap[c]?):
  Jr m d e k l v i n q b wc.heap.size h j ((a.setCell (V wc 0) (A h)).setCell (V wc 1) (A j)):=by
 obtain⟨o,p,s,t,B,u,C⟩:=x;have D:a.heap[wc.heap.size]?=some (.cells #[f,r] 36 (0,0)):=(z _ (aoP _) (by simp)).trans (bL wc _);have E:=C wc.heap.size (aoP _) (by simp);refine⟨(dI (by omega)).trans ((dI (by omega)).trans y),aaw D,o,p,s,t,B.gB (by simp[World.setCell]) fun c u=> ?_,(u.va w _).va w _⟩;have :c≠wc.heap.size:=fun g=>E (g▸u)
 exact(dI this).trans (dI this)
theorem SH{wc:World}(t:∃g o p r,gX a b g d k f i o p l n r/\c0 e g m a/\∀c,wc.heap.size<=c->c<w.heap.size->¬g c)(u:a.heap[q]?=some (.cells #[A h,A j] 36 (0,0))):
  Jr m b e d k f i l n q a.heap.size h j (a.alloc (.cells #[A h,A j] 36)):=by
 obtain⟨g,o,p,r,v,x,y⟩:=t;have s:=(aoQ a.heap.size a).alloc (aoP _) (.cells #[A h,A j] 36);exact⟨bj u s,bL a _,g,o,p,r,v.af s,x.after s⟩
def vz (w:World) (c:Nat) (F:Nat->Prop) (d:Nat) (a:World):Prop:=∃b,ki a c b d/\c0 F b w a
theorem ak9(h:ki m k e l)(o:jD)(j:pV o)(B:o.kind=2):
  O 68 #[Z k,.agg #[A o.kind,A o.r,A o.c,A o.d,A o.i1,A o.i2,A o.made,.string o.key,A o.a,A o.b,.bool o.yes]] m fun g C=>g=.returned (.bool true)/\vz m k e (l+1) C:=by
 obtain⟨x,r,D,told,cA,cC,N,E,P,jU,h⟩:=h;rw[B];have s:=aa ((aoQ m.heap.size m).alloc (aoP _) (.cells #[A 2,A o.r,A o.c,A o.d,A o.i1,A o.i2,A o.made,.string o.key,A o.a,A o.b,.bool o.yes] 87));have p:=aa (bL m (.cells #[A 2,A o.r,A o.c,A o.d,A o.i1,A o.i2,A o.made,.string o.key,A o.a,A o.b,.bool o.yes] 87));have F:=aa (bj h.blk s.o);have I:=aa (fun W (L:J m W)=>ak2 h L o.c o.i1 o.i2 o.a j.a o.key j.key);have du:=aa h.lt;have sd:=aa h.fr;have M:=aa (show ∀f,m.heap.size<=f->¬e f from fun f j hF=>by have :=h.lt f hF;omega);have cP:=h.lt _ h.fr;have Q:=aa h.blk;clear h j;go_enter func68,ntmps68;go_wp2_with fail
 go_region_held3 (fun W=>W.cell? (H k)=some (Z x)/\W.cell? (K k 1)=some (Z r)/\W.cell? (V m 0)=some (A 2)/\W.cell? (V m 2)=some (A o.c)/\W.cell? (V m 4)=some (A o.i1)/\W.cell? (V m 5)=some (A o.i2)/\W.cell? (V m 7)=some (.string o.key)/\W.cell? (V m 8)=some (A o.a)/\W.cell? (V m 9)=some (A o.b)/\W.cell? (V m 10)=some (.bool o.yes)) (first |exact ep F.o p.o|exact ep t.o n.o)
  (first |(go_at_call 23;refine(I.o _ s.o.drew).mono ?_;rintro g R ⟨i,rfl,u,v,hD,w⟩;have t:=aa (u.trans Q.o);have n:=aa ((v m.heap.size (aM p.o) (M.o _ (aoP _))).trans p.o);have S:=aa w;clear u v w))
 go_wp2_with fail
 go_region_held3 (fun W=>W.cell? (H k)=some (Z x)/\W.cell? (K k 1)=some (Z r)/\W.cell? (V m 0)=some (A 2)/\W.cell? (V m 2)=some (A o.c)/\W.cell? (V m 4)=some (A o.i1)/\W.cell? (V m 5)=some (A o.i2)/\W.cell? (V m 7)=some (.string o.key)/\W.cell? (V m 8)=some (A o.a)/\W.cell? (V m 9)=some (A o.b)/\W.cell? (V m 10)=some (.bool o.yes)) (first |exact ep t.o n.o|exact ep U.o X.o)
  (first |(go_at_call 94;refine(S.o _ (Loc.cQ ((aoQ _ R).drew))).mono ?_;rintro g w2 ⟨rfl,⟨Y,eF,fK,P',q,y,eu⟩,z⟩;have U:=aa q.blk;have X:=aa ((z m.heap.size (aoP _) (.inl (by simp)) (aM n.o)).trans n.o);have iQ:=aa q;have iR:=aa y;clear q y z eu))
 go_wp2;go_ret
 exact⟨rfl,Y,⟨x,r,D,told,eF,fK,N,E,P',by omega,iQ.o⟩,iR.o⟩
theorem ala(h:ki m k e l)(o:jD)(n:pV o)(B:o.kind=4):
  O 68 #[Z k,.agg #[A o.kind,A o.r,A o.c,A o.d,A o.i1,A o.i2,A o.made,.string o.key,A o.a,A o.b,.bool o.yes]] m fun g C=>g=.returned (.bool true)/\vz m k e (l+1) C:=by
 obtain⟨x,r,D,told,cA,cC,N,E,P,jU,h⟩:=h;rw[B];have s:=aa ((aoQ m.heap.size m).alloc (aoP _) (.cells #[A 4,A o.r,A o.c,A o.d,A o.i1,A o.i2,A o.made,.string o.key,A o.a,A o.b,.bool o.yes] 87));have p:=aa (bL m (.cells #[A 4,A o.r,A o.c,A o.d,A o.i1,A o.i2,A o.made,.string o.key,A o.a,A o.b,.bool o.yes] 87));have F:=aa (bj h.blk s.o);have I:=aa (fun W (L:J m W)=>ak3 h L o.c o.i1 o.i2 o.key n.key);have du:=aa h.lt;have sd:=aa h.fr;have M:=aa (show ∀f,m.heap.size<=f->¬e f from fun f n hF=>by have :=h.lt f hF;omega);have cP:=h.lt _ h.fr;have Q:=aa h.blk;clear h n;go_enter func68,ntmps68;go_wp2_with fail
 go_region_held3 (fun W=>W.cell? (H k)=some (Z x)/\W.cell? (K k 1)=some (Z r)/\W.cell? (V m 0)=some (A 4)/\W.cell? (V m 2)=some (A o.c)/\W.cell? (V m 4)=some (A o.i1)/\W.cell? (V m 5)=some (A o.i2)/\W.cell? (V m 7)=some (.string o.key)/\W.cell? (V m 8)=some (A o.a)/\W.cell? (V m 9)=some (A o.b)/\W.cell? (V m 10)=some (.bool o.yes)) (first |exact ep F.o p.o|exact ep t.o j.o)
  (first |(go_at_call 78;refine(I.o _ s.o.drew).mono ?_;rintro g R ⟨i,rfl,u,v,hD,w⟩;have t:=aa (u.trans Q.o);have j:=aa ((v m.heap.size (aM p.o) (M.o _ (aoP _))).trans p.o);have S:=aa w;clear u v w))
 go_wp2_with fail
 go_region_held3 (fun W=>W.cell? (H k)=some (Z x)/\W.cell? (K k 1)=some (Z r)/\W.cell? (V m 0)=some (A 4)/\W.cell? (V m 2)=some (A o.c)/\W.cell? (V m 4)=some (A o.i1)/\W.cell? (V m 5)=some (A o.i2)/\W.cell? (V m 7)=some (.string o.key)/\W.cell? (V m 8)=some (A o.a)/\W.cell? (V m 9)=some (A o.b)/\W.cell? (V m 10)=some (.bool o.yes)) (first |exact ep t.o j.o|exact ep U.o X.o)
  (first |(go_at_call 97;refine(S.o _ (Loc.cQ ((aoQ _ R).drew))).mono ?_;rintro g w2 ⟨rfl,⟨Y,eF,fK,P',q,y,eu⟩,z⟩;have U:=aa q.blk;have X:=aa ((z m.heap.size (aoP _) (.inl (by simp)) (aM j.o)).trans j.o);have iQ:=aa q;have iR:=aa y;clear q y z eu))
 go_wp2;go_ret
 exact⟨rfl,Y,⟨x,r,D,told,eF,fK,N,E,P',by omega,iQ.o⟩,iR.o⟩
theorem alb(h:ki m k e l)(o:jD)(n:pV o)(B:o.kind=7):
  O 68 #[Z k,.agg #[A o.kind,A o.r,A o.c,A o.d,A o.i1,A o.i2,A o.made,.string o.key,A o.a,A o.b,.bool o.yes]] m fun g C=>g=.returned (.bool true)/\vz m k e (l+1) C:=by
 obtain⟨x,r,D,told,cA,cC,N,E,P,jU,h⟩:=h;rw[B];have s:=aa ((aoQ m.heap.size m).alloc (aoP _) (.cells #[A 7,A o.r,A o.c,A o.d,A o.i1,A o.i2,A o.made,.string o.key,A o.a,A o.b,.bool o.yes] 87));have p:=aa (bL m (.cells #[A 7,A o.r,A o.c,A o.d,A o.i1,A o.i2,A o.made,.string o.key,A o.a,A o.b,.bool o.yes] 87));have F:=aa (bj h.blk s.o);have I:=aa (fun W (L:J m W)=>ak4 h L o.c o.i1 o.i2 o.a o.b n.b);have du:=aa h.lt;have sd:=aa h.fr;have M:=aa (show ∀f,m.heap.size<=f->¬e f from fun f n hF=>by have :=h.lt f hF;omega);have cP:=h.lt _ h.fr;have Q:=aa h.blk;clear h n;go_enter func68,ntmps68;go_wp2_with fail
 go_region_held3 (fun W=>W.cell? (H k)=some (Z x)/\W.cell? (K k 1)=some (Z r)/\W.cell? (V m 0)=some (A 7)/\W.cell? (V m 2)=some (A o.c)/\W.cell? (V m 4)=some (A o.i1)/\W.cell? (V m 5)=some (A o.i2)/\W.cell? (V m 7)=some (.string o.key)/\W.cell? (V m 8)=some (A o.a)/\W.cell? (V m 9)=some (A o.b)/\W.cell? (V m 10)=some (.bool o.yes)) (first |exact ep F.o p.o|exact ep t.o j.o)
  (first |(go_at_call 33;refine(I.o _ s.o.drew).mono ?_;rintro g R ⟨i,rfl,u,v,hD,w⟩;have t:=aa (u.trans Q.o);have j:=aa ((v m.heap.size (aM p.o) (M.o _ (aoP _))).trans p.o);have S:=aa w;clear u v w))
 go_wp2_with fail
 go_region_held3 (fun W=>W.cell? (H k)=some (Z x)/\W.cell? (K k 1)=some (Z r)/\W.cell? (V m 0)=some (A 7)/\W.cell? (V m 2)=some (A o.c)/\W.cell? (V m 4)=some (A o.i1)/\W.cell? (V m 5)=some (A o.i2)/\W.cell? (V m 7)=some (.string o.key)/\W.cell? (V m 8)=some (A o.a)/\W.cell? (V m 9)=some (A o.b)/\W.cell? (V m 10)=some (.bool o.yes)) (first |exact ep t.o j.o|exact ep U.o X.o)
  (first |(go_at_call 101;refine(S.o _ (Loc.cQ ((aoQ _ R).drew))).mono ?_;rintro g w2 ⟨rfl,⟨Y,eF,fK,P',q,y,eu⟩,z⟩;have U:=aa q.blk;have X:=aa ((z m.heap.size (aoP _) (.inl (by simp)) (aM j.o)).trans j.o);have iQ:=aa q;have iR:=aa y;clear q y z eu))
 go_wp2;go_ret
 exact⟨rfl,Y,⟨x,r,D,told,eF,fK,N,E,P',by omega,iQ.o⟩,iR.o⟩
theorem alc(h:ki m k e l)(o:jD)(z:o.kind=8):
  O 68 #[Z k,.agg #[A o.kind,A o.r,A o.c,A o.d,A o.i1,A o.i2,A o.made,.string o.key,A o.a,A o.b,.bool o.yes]] m fun g B=>g=.returned (.bool true)/\vz m k e (l+1) B:=by
 obtain⟨x,r,C,told,cA,cC,N,D,P,jU,h⟩:=h;rw[z];have q:=aa ((aoQ m.heap.size m).alloc (aoP _) (.cells #[A 8,A o.r,A o.c,A o.d,A o.i1,A o.i2,A o.made,.string o.key,A o.a,A o.b,.bool o.yes] 87));have n:=aa (bL m (.cells #[A 8,A o.r,A o.c,A o.d,A o.i1,A o.i2,A o.made,.string o.key,A o.a,A o.b,.bool o.yes] 87));have E:=aa (bj h.blk q.o);have F:=aa (fun W (I:J m W)=>ak5 h I o.c o.i1 o.i2 o.a);have du:=aa h.lt;have sd:=aa h.fr;have L:=aa (show ∀f,m.heap.size<=f->¬e f from fun f hk hF=>by have :=h.lt f hF;omega);have cP:=h.lt _ h.fr;have M:=aa h.blk;clear h;go_enter func68,ntmps68;go_wp2_with fail
 go_region_held3 (fun W=>W.cell? (H k)=some (Z x)/\W.cell? (K k 1)=some (Z r)/\W.cell? (V m 0)=some (A 8)/\W.cell? (V m 2)=some (A o.c)/\W.cell? (V m 4)=some (A o.i1)/\W.cell? (V m 5)=some (A o.i2)/\W.cell? (V m 7)=some (.string o.key)/\W.cell? (V m 8)=some (A o.a)/\W.cell? (V m 9)=some (A o.b)/\W.cell? (V m 10)=some (.bool o.yes)) (first |exact ep E.o n.o|exact ep s.o j.o)
  (first |(go_at_call 34;refine(F.o _ q.o.drew).mono ?_;rintro g Q ⟨i,rfl,t,u,hD,v⟩;have s:=aa (t.trans M.o);have j:=aa ((u m.heap.size (aM n.o) (L.o _ (aoP _))).trans n.o);have R:=aa v;clear t u v))
 go_wp2_with fail
 go_region_held3 (fun W=>W.cell? (H k)=some (Z x)/\W.cell? (K k 1)=some (Z r)/\W.cell? (V m 0)=some (A 8)/\W.cell? (V m 2)=some (A o.c)/\W.cell? (V m 4)=some (A o.i1)/\W.cell? (V m 5)=some (A o.i2)/\W.cell? (V m 7)=some (.string o.key)/\W.cell? (V m 8)=some (A o.a)/\W.cell? (V m 9)=some (A o.b)/\W.cell? (V m 10)=some (.bool o.yes)) (first |exact ep s.o j.o|exact ep S.o U.o)
  (first |(go_at_call 102;refine(R.o _ (Loc.cQ ((aoQ _ Q).drew))).mono ?_;rintro g w2 ⟨rfl,⟨X,Y,fK,P',p,w,eu⟩,y⟩;have S:=aa p.blk;have U:=aa ((y m.heap.size (aoP _) (.inl (by simp)) (aM j.o)).trans j.o);have iQ:=aa p;have iR:=aa w;clear p w y eu))
 go_wp2;go_ret
 exact⟨rfl,X,⟨x,r,C,told,Y,fK,N,D,P',by omega,iQ.o⟩,iR.o⟩
def vA (c:Int) (n:Nat):Nat:=(if c<0 then -(c+1) else c).toNat%n
theorem yw(c:Int)(h:0<b):vA c b<b:=Nat.mod_lt _ h
theorem SI(c:Int)(n:Nat)(b: -9223372036854775808<=c)(d:c<=9223372036854775807)(f:0<n)(g:n<=9223372036854775807)(w:World):
  O 67 #[A c,A n] w fun e a=>e=.returned (A (vA c n))/\a=w:=by
 unfold vA;by_cases h:c<0
 ·rw[if_pos h]
  go_enter func67,ntmps67;go_wp2;go_ret
  refine⟨?_,rfl⟩;simp;rw[<-Int.neg_tmod,Int.tmod_eq_emod_of_nonneg (by omega)];have :max (-(c+1)) 0= -(c+1):=by omega
  rw[this]
 ·rw[if_neg h]
  go_enter func67,ntmps67;go_wp2;go_ret
  refine⟨?_,rfl⟩;have :max c 0=c:=by omega
  simp[this]
theorem ald(j:er a f i)(l:er a r i):
  O 105 #[f,r] a fun e u=>e=.returned (.bool true)/\J a u:=by
 obtain⟨C,ac,rfl,D,v,m⟩:=bp j;obtain⟨E,F,rfl,I,w,n⟩:=bp l;unfold maxLen at v w;have x:=aa j;clear j;have y:=aa l;clear l;have z:=aa m;clear m;have B:=aa n;clear n;go_enter func105,ntmps105;go_wp2;go_loopw [5] (fun b wr=>∃k:Nat,k<=i.length/\b=A k/\J a wr) (fun b _=>i.length-(intOf b).toNat)
 case atStart=>exact⟨0,aoR _,rfl,aoQ _ _⟩
 case round=>
  obtain⟨k,L,rfl,c⟩:=hrel;by_cases d:k<i.length
  ·obtain⟨g,rfl⟩:=z.o k d
   obtain⟨M,rfl⟩:=B.o k d;obtain⟨p,q⟩:=er.cells x.o (by simp) k d;obtain⟨s,t⟩:=er.cells y.o (by simp) k d;replace p:=af c p;replace q:=af c q;replace s:=af c s;replace t:=af c t;have heq:=Ak;have N:(!et i[k].1 i[k].2 i[k].1 i[k].2)=false:=by simp[et]
   go_wp2;go_region
   all_goals go_wp2
   all_goals go_roundw
   case rel=>exact⟨k+1,by omega,by go_num,c.drew⟩
   case measure=>simp[intOf];omega
  ·go_wp2
   go_ret
   exact⟨rfl,c⟩
def B1 (w:World) (v:Value) (l:List dR):Prop:=w.ownsRow 0 57 3 v l.length (l.flatMap nK)
theorem nL.gr{l}(h:nL b a f l):B1 a f l:=gC h (aoR _)
theorem B1.cells{w l}{g n cap:Nat}(h:B1 w (.slice (some ⟨g,0,none⟩) n cap) l)(f:n=l.length)(i:Nat)(b:i<l.length):
  w.cell? ⟨g,i*3,none⟩=some (.int .i64 l[i].1)/\w.cell? ⟨g,i*3+1,none⟩=some (.int .i64 l[i].2.1)/\w.cell? ⟨g,i*3+2,none⟩=some (.int .i64 l[i].2.2):=by
 subst f;have c:=fun j (e:j<3)=>aqE h (i*3+j) (by omega)
 have d:∀(l:List dR) (k:Nat) (a:k<l.length) (j:Nat),j<3->(l.flatMap nK)[k*3+j]?=(nK l[k])[j]?:=by
  intro l
  induction l with
  |nil=>intro k a;simp at a
  |cons x l ih=>
   intro k a j e;cases k with
   |zero=>rw[ape,aqU (by simp[nK];omega)];simp
   |succ k=>
    rw[ape,aqV (by simp[nK];omega),show(nK x).length=3 from rfl,show(k+1)*3+j-3=k*3+j by omega];exact ih k (by simpa using a) j e
 refine⟨?_,?_,?_⟩
 ·have :=(c 0 (by omega)).trans (d l i b 0 (by omega));simpa[nK]using this
 ·have :=(c 1 (by omega)).trans (d l i b 1 (by omega));simpa[nK]using this
 ·have :=(c 2 (by omega)).trans (d l i b 2 (by omega));simpa[nK]using this
def M4 (a b c d e f:Int):Bool:=decide (a=d/\b=e/\c=f)
theorem ale(a b c d e f:Int)(W:World):(binOp .neq 57 (.agg #[A a,A b,A c]) (.agg #[A d,A e,A f])).run prog W=.ok (.bool (!M4 a b c d e f)) W:=by
 go_simp;unfold M4;by_cases g:a=d<;>by_cases h:b=e<;>by_cases i:c=f<;>simp[g,h,i]
theorem alf{l}(d:B1 a f l)(j:B1 a r l):
  O 108 #[f,r] a fun e w=>e=.returned (.bool true)/\J a w:=by
 obtain⟨E,ac,rfl,F,x,m⟩:=bp d;obtain⟨I,L,rfl,M,y,n⟩:=bp j;unfold maxLen at x y;have z:=aa d;clear d;have B:=aa j;clear j;have C:=aa m;clear m;have D:=aa n;clear n;go_enter func108,ntmps108;go_wp2;go_loopw [5] (fun i wr=>∃k:Nat,k<=l.length/\i=A k/\J a wr) (fun i _=>l.length-(intOf i).toNat)
 case atStart=>exact⟨0,aoR _,rfl,aoQ _ _⟩
 case round=>
  obtain⟨k,N,rfl,b⟩:=hrel;by_cases c:k<l.length
  ·obtain⟨g,rfl⟩:=C.o k c
   obtain⟨P,rfl⟩:=D.o k c;obtain⟨p,q,s⟩:=B1.cells z.o (by simp) k c;obtain⟨t,u,v⟩:=B1.cells B.o (by simp) k c;replace p:=af b p;replace q:=af b q;replace s:=af b s;replace t:=af b t;replace u:=af b u;replace v:=af b v;have heq:=ale;have Q:(!M4 l[k].1 l[k].2.1 l[k].2.2 l[k].1 l[k].2.1 l[k].2.2)=false:=by simp[M4]
   go_wp2;go_region
   all_goals go_wp2
   all_goals go_roundw
   case rel=>exact⟨k+1,by omega,by go_num,b.drew⟩
   case measure=>simp[intOf];omega
  ·go_wp2
   go_ret
   exact⟨rfl,b⟩
end
end Go.Proofs.YtnkpogjiiohapaaGreatDoor
