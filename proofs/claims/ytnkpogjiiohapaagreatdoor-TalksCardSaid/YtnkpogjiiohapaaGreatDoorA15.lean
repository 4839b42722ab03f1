/- Our own text. -/
import Derived.Test.YtnkpogjiiohapaaGreatDoorA13
import Derived.Test.YtnkpogjiiohapaaGreatDoorA14
import Derived.Test.YtnkpogjiiohapaaGreatDoorA08
import Derived.Test.YtnkpogjiiohapaaGreatDoorA12
set_option linter.unusedSimpArgs false
set_option linter.unusedVariables false
set_option maxRecDepth 1000000
set_option maxHeartbeats 1600000
namespace Go.Proofs.YtnkpogjiiohapaaGreatDoor
section
open Go.RowKit Tryz
variable {a d m:Nat}{b v:World}{e:Nat->Nat->Nat}{f h i:Value}{j:Nat->List bw}{k:Nat->Nat->Value}{l:Nat->Value}{n:List bu}{q:Nat->Prop}{r w:PId}{s:Nat->List bu}{u:List ba}
theorem afx{N}(s:lz b m N f h i l j k e d n)(ab:bZ n<900000)(y z r:Int)(E:Bool):
  O 100 #[Z m,A d,.agg #[A y,A z],A r,.bool E] b fun c w'=>
   (∃g,sS (n.foldl b0 c2) (bZ n) (j d).length d (y,z) r E=.error g/\c=.returned (.tuple #[.agg #[A 0,A 0],A g])/\J b w')\/
   (∃bE,sS (n.foldl b0 c2) (bZ n) (j d).length d (y,z) r E=.ok bE/\c=.returned (.tuple #[.agg #[A (bZ n+1),A d],A 0])/\∃w dU dV has',w.map bw.p=bE/\gx b w' m N f h i l j k e d n w dU dV has'):=by
 have a1:=aa (((aoQ b.heap.size b).alloc (aoP _) (.cells #[A y,A z] 36)).alloc (by simp) (.cells #[A 0,A 0] 36));have nO:=aa (GK (s.toShown.af a1.o) y z true);have aC:=aa s;clear s;generalize kv:n.foldl b0 c2=mf;rw[kv]at nO;clear kv;go_enter func100,ntmps100;go_wp2_with fail
 refine nO.o.mono ?_;rintro c w1 (⟨g,h1,hn,rfl,F⟩|⟨q,x,go,cap,os,h1,rfl,dT⟩)
 ·have aT:=aa (And.intro h1 F);clear h1 F
  have sx:¬g=0:=by omega
  clear hn;have fz:=af (a:=(H (b.heap.size+1))) (v:=A 0) aT.o.2 (by simp[go_sem]);have eJ:=af (a:=(K (b.heap.size+1) 1)) (v:=A 0) aT.o.2 (by simp[go_sem]);have kT:∀t,w1.frozen? (K (b.heap.size+1) t)=false:=fun t=>by rw[aT.o.2.frozen (p:=(K (b.heap.size+1) t)) (by simp)];simp[go_sem]
  go_wp2;refine bodyPost_ret (v:=.tuple #[.agg #[A 0,A 0],A g]) (by simp[results,results100,go_sem,fz,eJ]) rfl ?_;exact .inl ⟨g,by unfold sS iM;rw[aT.o.1],rfl,((a1.o.trans (aT.o.2.mono a1.o.size)).setCell (by simp) _).setCell (by simp) _⟩
 ·have H1:=aa h1;clear h1
  have F:=dT.below;have k5:=aa (show w1.heap[b.heap.size]?=some (.cells #[A y,A z] 36 (0,0)) by rw[F.block b.heap.size (by simp;omega)];exact mi (bL _ _));have tX:=aa (show w1.heap[b.heap.size+1]?=some (.cells #[A 0,A 0] 36 (0,0)) by rw[F.block (b.heap.size+1) (by simp)];exact(by simp :(b.alloc (.cells #[A y,A z] 36)).heap.size=b.heap.size+1)▸bL (b.alloc (.cells #[A y,A z] 36)) (.cells #[A 0,A 0] 36));have ax:=aa (a1.o.trans (F.mono a1.o.size));clear F;have hI:=aa dT;clear dT;have lO:=aa hI.o.gY;have lx:=aa hI.o.cell;have hle:=hI.o.len;have p4:=aa hle;clear hle;have k4:=aa hI.o.ss;have qI:=hI.o.lt;generalize os[q]=W at *;have kO:=aa (show iM mf (y,z)=.ok (jH W.ss) by
    unfold iM;rw[H1.o];have :=k4.o;cases D:mf[q]? with
    |none=>rw[D]at this;cases this
    |some o=>
     rw[D]at this;simp at this;simp only[D,dw];rw[this,Kp])
  have uN:=aa (JS _ go (q*4) _ W.ss _ lx.o lO.o (by have :=p4.o.1;omega));have iE:=aa (show(jH W.ss).length<=240 by
   have :=Gu W.ss W.ss.length;rw[apc (aoP _)]at this;have :=p4.o.1;omega)
  generalize jH W.ss=L at *;go_wp2_with fail
  refine uN.o.mono ?_;rintro c w2 ⟨u,rfl,hu,aU⟩;have I:=aa aU;clear aU;have gi:=aa hu.ids;clear hu;have gD:=aa (Ui u L r w2 gi.o);go_wp2_with fail
  refine gD.o.mono ?_;rintro c M ⟨P,⟨vJ,rfl⟩|⟨⟨Q,R⟩,js,rfl⟩⟩
  ·have S:=aa (ax.o.trans ((I.o.trans (P.mono I.o.size)).mono ax.o.size))
   have U:=aa (bj (bj tX.o I.o) P);have Hz:=aa vJ;clear vJ P;have B:=aa ((aoQ M.heap.size M).alloc (aoP _) (.cells #[A 0,A 0] 36));have C:=aa ((aC.o.jY S.o).jY B.o);have qh:=aa (Ar C.o.room d C.o.hc 3 (by omega));have Pp:=aM U.o;have fz:=(bh (bj U.o B.o)).1;have eJ:=(bh (bj U.o B.o)).2;have kT:=cS (bj U.o B.o);go_wp2_with fail
   refine qh.o.mono ?_;rintro c w4 ⟨rfl,gA⟩;have fw:=aa (S.o.trans (B.o.mono S.o.size));clear C qh;generalize A1:M.alloc (.cells #[A 0,A 0] 36)=hd at *;subst gA;clear A1;generalize decide ((j d).length+3<=60)=Po;go_wp2;refine bodyPost_ret (v:=.tuple #[.agg #[A 0,A 0],A 7]) (by simp[results,results100,go_sem,fz,eJ]) rfl ?_;exact .inl ⟨7,by unfold sS;rw[kO.o];simp only[Hz.o],rfl,(fw.o.setCell (by simp) _).setCell (by simp) _⟩
  ·have S:=aa (ax.o.trans ((I.o.trans (P.mono I.o.size)).mono ax.o.size))
   have Pq:=aa (bj (bj k5.o I.o) P);have U:=aa (bj (bj tX.o I.o) P);have uZ:=aa js;clear js P;have B:=aa ((aoQ M.heap.size M).alloc (aoP _) (.cells #[A Q,A R] 36));have fw:=aa (S.o.trans (B.o.mono S.o.size));have C:=aa ((aC.o.jY S.o).jY B.o);have qh:=aa (Ar C.o.room d C.o.hc 3 (by omega));have vX:=aa (bj Pq.o B.o);have oV:=aa (bj U.o B.o);have ns:=aa (bL M (.cells #[A Q,A R] 36));have Pp:=aM U.o;have afu:=aM ns.o;go_wp2_with fail
   refine qh.o.mono ?_;rintro c w4 ⟨rfl,gA⟩;generalize A1:M.alloc (.cells #[A Q,A R] 36)=hd at *;subst gA;clear A1;by_cases aD:(j d).length<58
   ·have D:decide ((j d).length+3<=60)=true:=decide_eq_true (by omega)
    rw[D];clear D;go_wp2_with fail
    refine(xw (aoQ _ _) C.o (by omega) rfl (by omega) 0 0 1 0 0 0 0 0 0 0 0 0 E ⟨#[]⟩ (.slice none 0 0) [] (EO _) (fun q hk=>by cases hk)).mono ?_;rintro c w5 ⟨rfl,vT,sF,vU,X⟩;have xU:=aa (X.typed C.o vX.o (by decide) (by decide) (by decide));have HA:=aa (X.typed C.o oV.o (by decide) (by decide) (by decide));have tY:=aa (X.typed C.o ns.o (by decide) (by decide) (by decide));have sy:=aa (show(sF d).length<59 by have :=X.len;simp at this;omega);have C5:=aa (show bZ (n++List.map bw.p [⟨qe (bZ n+1) d E,.slice none 0 0⟩])=bZ n+1 from GV _ _ rfl);have rO:=aa X;clear X;have xV:=aa ((aoQ w5.heap.size w5).alloc (aoP _) (.cells #[A (bZ n+1),A d] 36));have rQ:=aa (bL w5 (.cells #[A (bZ n+1),A d] 36));have Fg:=aa (bj xU.o xV.o);have Ps:=aa (bj HA.o xV.o);have qi:=aa (bj tY.o xV.o);have om:=aa (rO.o.wr.jY xV.o);have bc:=(bh Fg.o).1;have a6:=(bh Fg.o).2;have y0:=(bh qi.o).1;have Pr:=(bh qi.o).2;have afv:=aM HA.o;have afw:=aM xU.o;have am9:=aM tY.o;go_wp2_with fail
    have ana:=sy.o;refine(xw (aoQ _ _) om.o (by omega) C5.o (by omega) 0 0 2 y z 0 0 Q R 0 0 0 false ⟨#[]⟩ (.slice none 0 0) [] (EO _) (fun q hk=>by cases hk)).mono ?_;rintro c w7 ⟨rfl,xO,we,xP,Y⟩;have V9:=aa (Y.typed om.o Fg.o (by decide) (by decide) (by decide));have C6:=aa (Y.typed om.o Ps.o (by decide) (by decide) (by decide));have HB:=aa (Y.typed om.o rQ.o (by decide) (by decide) (by decide));have afy:=aa (show(we d).length<60 by have :=Y.len;simp at this;omega);have afz:=aa (show bZ (n++List.map bw.p [⟨qe (bZ n+1) d E,.slice none 0 0⟩]++List.map bw.p [⟨tR (bZ n+1+1) d (y,z) (Q,R),.slice none 0 0⟩])=bZ n+1+1 from(GV _ _ (by rw[C5.o];rfl)).trans (by rw[C5.o]));have A0:=aa Y;clear Y bc a6 y0 Pr;have HC:=aa ((aoQ w7.heap.size w7).alloc (aoP _) (.cells #[A (bZ n+1+1),A d] 36));have Wa:=aa (bL w7 (.cells #[A (bZ n+1+1),A d] 36));have Wb:=aa (bj V9.o HC.o);have HR8:=aa (bj C6.o HC.o);have Pt:=aa (bj HB.o HC.o);have Lg:=aa (A0.o.wr.jY HC.o);have bc:=(bh Wb.o).1;have a6:=(bh Wb.o).2;have c7:=(bh Pt.o).1;have bg:=(bh Pt.o).2;have ct:=(bh Wa.o).1;have aj:=(bh Wa.o).2;have anb:=aM C6.o;have anc:=aM V9.o;have ane:=aM HB.o;go_wp2_with fail
    refine(xw (aoQ _ _) Lg.o afy.o afz.o (by omega) 0 0 3 y z (bZ n+1+1) d 0 0 0 (bZ n+1) d false ⟨#[]⟩ (.slice none 0 0) [] (EO _) (fun q hk=>by cases hk)).mono ?_;rintro c w9 ⟨rfl,K6,K7,K8,Lh⟩;have Wc:=aa (Lh.typed Lg.o Pt.o (by decide) (by decide) (by decide));have Li:=aa (Lh.typed Lg.o HR8.o (by decide) (by decide) (by decide));have afA:=aa Lh;clear Lh bc a6 c7 bg ct aj;have eO:=(bh Wc.o).1;have fL:=(bh Wc.o).2;have s0:=(bh Li.o).1;have s1:=(bh Li.o).2;have KM:=cS Li.o;go_wp2;refine bodyPost_ret (v:=.tuple #[.agg #[A (bZ n+1),A d],A 0]) (by simp[results,results100,go_sem,s0,s1]) rfl ?_;exact .inr ⟨[qe (bZ n+1) d E,tR (bZ n+2) d (y,z) (Q,R),sP 3 (bZ n+3) d (y,z) (bZ n+2,d) 0 (bZ n+1,d) []],by unfold sS;rw[kO.o];simp only[uZ.o,aD,if_true],rfl,
     [⟨qe (bZ n+1) d E,.slice none 0 0⟩,⟨tR (bZ n+1+1) d (y,z) (Q,R),.slice none 0 0⟩,⟨sP 3 (bZ n+1+1+1) d (y,z) (bZ n+1+1,d) 0 (bZ n+1,d) [],.slice none 0 0⟩],K6,K7,K8,by rw[<-aeY (bZ n),<-E5 (bZ n)];rfl,
     aeZ aC.o fw.o rO.o xV.o A0.o HC.o afA.o Li.o (by omega) (fun c=>by cases c) (fun c=>by cases c) (fun c=>by cases c) _ _⟩
   ·have D:decide ((j d).length+3<=60)=false:=decide_eq_false (by omega)
    rw[D];clear D;have fz:=(bh oV.o).1;have eJ:=(bh oV.o).2;have kT:=cS oV.o;go_wp2;refine bodyPost_ret (v:=.tuple #[.agg #[A 0,A 0],A 8]) (by simp[results,results100,go_sem,fz,eJ]) rfl ?_;exact .inl ⟨8,by unfold sS;rw[kO.o];simp only[uZ.o,aD,if_false],rfl,(fw.o.setCell (by simp) _).setCell (by simp) _⟩
def C7 (D:List ba):Prop:=∀o∈D,o.list=true->∀s∈o.ss,s.key=⟨#[]⟩
theorem afB{l:List bU}{s:bU}(h:s∈oD l w r):s∈l\/s=me ⟨#[]⟩ r:=by
 have a:∀n,s∈lr l n (me ⟨#[]⟩ r)->s∈l\/s=me ⟨#[]⟩ r:=by
  intro n h;unfold lr at h;rw[aoZ,ao3]at h;rcases h with h|h|h
  ·exact .inl (apx h)
  ·exact .inr h
  ·exact .inl (ap0 h)
 unfold oD at h;split at h
 ·exact a _ h
 ·split at h
  ·exact .inl h
  ·exact a _ h
theorem Wd {α:Type} {l:List α} {f:α->α} {x:α} (h:x∈l.modify a f):x∈l\/∃y∈l,x=f y:=by
 obtain⟨j,b,rfl⟩:=apl.1 h;rw[List.getElem_modify];rw[List.length_modify]at b;split
 ·exact .inr ⟨l[j],aoY _,rfl⟩
 ·exact .inl (aoY _)
theorem afC{l:List bU}{c:ByteArray}{d:List PId}{kind:Int}{y:cE}{s:bU}(h:s∈kN l true c r d kind y):∃a∈l,s.key=a.key:=by
 unfold kN at h;split at h
 ·simp at h;exact⟨s,h,rfl⟩
 ·rcases Wd h with b|⟨a,b,rfl⟩
  ·exact⟨s,b,rfl⟩
  ·exact⟨a,b,rfl⟩
theorem C7.mo(h:C7 u)(p:bu):C7 (b0 u p):=by
 intro o b c s a;unfold b0 at b;split at b
 ·rcases aoZ.1 b with b|b
  ·exact h o b c s a
  ·simp at b;subst b;simp at a
 ·split at b
  ·exact h o b c s a
  ·rcases Wd b with g|⟨i,g,rfl⟩
   ·exact h o g c s a
   ·unfold e9 at c a
    split at a
    ·split at a
     ·rename_i f d
      rcases afB a with a|rfl
      ·exact h i g d s a
      ·rfl
     ·rename_i f d
      simp[f,d]at c
    ·split at a
     ·rename_i f d
      rw[if_neg f,if_pos d]at c;have j:i.list=true:=c;rw[j]at a;obtain⟨k,l,e⟩:=afC a;rw[e];exact h i g j k l
     ·rename_i f d
      rw[if_neg f,if_neg d]at c;exact h i g c s a
theorem afD(S:List bu):C7 (S.foldl b0 c2):=by
 have b:∀(S:List bu) (D:List ba),C7 D->C7 (S.foldl b0 D):=by
  intro S
  induction S with
  |nil=>intro D h;exact h
  |cons p S ih=>intro D h;exact ih _ (h.mo p)
 refine b S c2 ?_;intro o a c;simp[c2]at a;subst a;cases c
theorem afE{b:List bD}(i:∀s∈b,s.key=⟨#[]⟩)(c:r∈jH b):∃q:Nat,∃h:q<b.length,cK (hz ⟨#[]⟩ r) b=(q:Int)/\(b.map bD.p).find? (eG ⟨#[]⟩ r)=some (b[q]).p:=by
 have l:=Cc (hz ⟨#[]⟩ r) b;have m:=yz (hz ⟨#[]⟩ r) b;have j:¬cK (hz ⟨#[]⟩ r) b<0:=by
  intro d;unfold jH at c;obtain⟨s,k,rfl⟩:=aoX.1 c;have e:=(apA.1 k).1;unfold cK at d;split at d
  ·omega
  ·rename_i f
   rw[aqX]at f;have :=f s e;simp[hz,et,i s e]at this
 obtain⟨q,g⟩:=aqe (a:=cK (hz ⟨#[]⟩ r) b) (by omega);refine⟨q,by omega,g,?_⟩;rw[TL,if_neg j,g];simp[show q<b.length by omega]
theorem oW{c:Array Value}{t:TypeId}{f:Nat×Nat}(h:b.heap[a]?=some (.cells c t f)){j:Nat}{u:Value}(d:c[j]?=some u):b.cell? (K a j)=some u:=by
 simp[World.cell?,h,d]
theorem afF{j f}(h:C7 u)(c:oF u r true=.ok a)(g:sw b v u a d m j f):∀s∈(f[a]'g.lt).ss,s.key=⟨#[]⟩:=by
 intro s k;have l:=g.lt;have i:=g.eq;have n:a<u.length:=by rw[<-i];simpa using l
 have q:u[a]=(f[a]).p:=by simp only[<-i,apy]
 have t:u[a].list=true:=by
  unfold oF at c;split at c
  ·cases c
  ·split at c
   ·rename_i o e
    split at c
    ·injection c with c
     rw[c]at e;rw[apH n]at e;injection e with e;rw[e];assumption
    ·cases c
   ·cases c
 have :=h u[a] (aoY _) t s.p (by rw[q];exact aoX.2 ⟨s,k,rfl⟩);exact this
theorem afG{d e g j k l m n o p q r u:Value}{t:TypeId}(c:b.heap[a]?=some (.cells #[f,h,i,d,e,g,j,k,l,m,n,o,p,q,r] t (0,0))):
  (b.setCell (K a 14) u).heap[a]?=some (.cells #[f,h,i,d,e,g,j,k,l,m,n,o,p,q,u] t (0,0)):=by
 have s:=aM c;obtain⟨_,v⟩:=ao1.1 c;simp[World.setCell,s,ap2,v]
theorem afH{t:Int}{c:Int}{kind n:Int}{b:List bD}{f:bD}(h:iM u r=.ok (jH b))(i:¬((a:Int)<0\/((jH b).length:Int)<=a))(j:m<60)(k:oF u r true=.ok d)(l:(jH b).getD a (0,0)=w)(e:(u[d]?.map ba.ss)=some (b.map bD.p))(q:(b.map bD.p).find? (eG ⟨#[]⟩ w)=some f.p):
  kE u t m c r a kind n=.ok [sP kind (t+1) c r w n (0,0) (f.ad.map (·.cD))]:=by
 unfold kE;rw[h];simp only[i,j,if_true,if_false,aqN,l];have :CY u r w=f.ad.map (·.cD):=by
  unfold CY;rw[k];cases g:u[d]? with
  |none=>rw[g]at e;cases e
  |some o=>
   rw[g]at e;simp at e;simp only[g,fD,e,q];rfl
 rw[this]
theorem Wh{w N aQ R}(h:lz w m N f i aQ l R k e d n)(ab:bZ n<900000)(I L t kind r:Int):
  O 150 #[Z m,A d,.agg #[A I,A L],A t,.agg #[A 0,A 0,A kind,.bool false,A 0,A 0,.string ⟨#[]⟩,A 0,A 0,A 0,A 0,A r,A 0,A 0,.slice none 0 0]] w fun b w'=>
   (∃v,kE (n.foldl b0 c2) (bZ n) (R d).length d (I,L) t kind r=.error v/\b=.returned (A v)/\J w w')\/
   (∃bE,kE (n.foldl b0 c2) (bZ n) (R d).length d (I,L) t kind r=.ok bE/\b=.returned (A 0)/\∃z dU dV has',z.map bw.p=bE/\gx w w' m N f i aQ l R k e d n z dU dV has'):=by
 have a1:=aa (((aoQ w.heap.size w).alloc (aoP _) (.cells #[A I,A L] 36)).alloc (by simp) (.cells #[A 0,A 0,A kind,.bool false,A 0,A 0,.string ⟨#[]⟩,A 0,A 0,A 0,A 0,A r,A 0,A 0,.slice none 0 0] 233));have nO:=aa (GK (h.toShown.af a1.o) I L true);have aC:=aa h;clear h;have xD:=aa (afD n);generalize kv:n.foldl b0 c2=mf;rw[kv]at nO xD;clear kv;go_enter func150,ntmps150;go_wp2_with fail
 refine nO.o.mono ?_;rintro b w1 (⟨v,S,hn,rfl,Y⟩|⟨c,B,go,cap,os,S,rfl,dT⟩)
 ·have aT:=aa (And.intro S Y);clear S Y
  have sx:¬v=0:=by omega
  clear hn;go_wp2;go_ret
  exact .inl ⟨v,by unfold kE iM;rw[aT.o.1],rfl,a1.o.trans (aT.o.2.mono a1.o.size)⟩
 ·have H1:=aa S;clear S
  have Y:=dT.below;have k5:=aa (show w1.heap[w.heap.size]?=some (.cells #[A I,A L] 36 (0,0)) by rw[Y.block w.heap.size (by simp;omega)];exact mi (bL _ _));have Wi:=aa (show w1.heap[w.heap.size+1]?=some (.cells #[A 0,A 0,A kind,.bool false,A 0,A 0,.string ⟨#[]⟩,A 0,A 0,A 0,A 0,A r,A 0,A 0,.slice none 0 0] 233 (0,0)) by rw[Y.block (w.heap.size+1) (by simp)];exact(by simp :(w.alloc (.cells #[A I,A L] 36)).heap.size=w.heap.size+1)▸bL (w.alloc (.cells #[A I,A L] 36)) _);have ax:=aa (a1.o.trans (Y.mono a1.o.size));clear Y;have hI:=aa dT;clear dT;have lO:=aa hI.o.gY;have lx:=aa hI.o.cell;have hle:=hI.o.len;have p4:=aa hle;clear hle;have k4:=aa hI.o.ss;have qI:=hI.o.lt;have sX:=aa (show ∀s∈(os[c]'qI).ss,s.key=⟨#[]⟩ from afF xD.o H1.o hI.o);generalize os[c]=C at *;have kO:=aa (show iM mf (I,L)=.ok (jH C.ss) by
    unfold iM;rw[H1.o];have :=k4.o;cases P:mf[c]? with
    |none=>rw[P]at this;cases this
    |some o=>
     rw[P]at this;simp at this;simp only[P,dw];rw[this,Kp])
  have uN:=aa (JS _ go (c*4) _ C.ss _ lx.o lO.o (by have :=p4.o.1;omega));have iE:=aa (show(jH C.ss).length<=240 by
   have :=Gu C.ss C.ss.length;rw[apc (aoP _)]at this;have :=p4.o.1;omega)
  go_wp2_with fail
  refine uN.o.mono ?_;rintro b w2 ⟨u,rfl,U,aU⟩;have bf:=aa (ax.o.trans (aU.mono ax.o.size));have gj:=aa (aC.o.jY bf.o);have uZ:=aa aU;clear aU;have gi:=aa U;clear U;have qh:=aa (Ar gj.o.room d gj.o.hc 1 (by omega));obtain⟨kB,kC,oU,huc,sL,hX⟩:=bp gi.o;subst oU;go_wp2_with fail
  refine qh.o.mono ?_;rintro b W ⟨rfl,eD⟩;subst eD;have Lj:=iE.o;by_cases hi:t<0\/((jH C.ss).length:Int)<=t
  ·generalize decide ((R d).length+1<=60)=Po
   have cZ:=aa hi;rcases hi with hi|hi
   ·go_wp2
    go_ret
    exact .inl ⟨7,by unfold kE;rw[kO.o];simp only[cZ.o,if_true],rfl,bf.o⟩
   ·by_cases pj:t<0
    ·go_wp2
     go_ret
     exact .inl ⟨7,by unfold kE;rw[kO.o];simp only[cZ.o,if_true],rfl,bf.o⟩
    ·go_wp2
     go_ret
     exact .inl ⟨7,by unfold kE;rw[kO.o];simp only[cZ.o,if_true],rfl,bf.o⟩
  ·by_cases aD:(R d).length<60
   ·have P:decide ((R d).length+1<=60)=true:=decide_eq_true (by omega)
    rw[P];clear P;obtain⟨j,rfl⟩:=aqe (a:=t) (by omega);have ix:j<(jH C.ss).length:=by omega
    obtain⟨Q,rfl⟩:=hX j ix;have sN:=aa (bj k5.o uZ.o);have iQ:=aa (bj Wi.o uZ.o);have bc:=(bh sN.o).1;have a6:=(bh sN.o).2;have E:=fun j u U=>oW iQ.o (j:=j) (u:=u) U
    have eO:=E 0 _ rfl;have fL:=E 1 _ rfl;have kM:=E 2 _ rfl;have mJ:=E 3 _ rfl;have qM:=E 4 _ rfl;have Kv:=E 5 _ rfl;have Cj:=E 6 _ rfl;have Kw:=E 7 _ rfl;have Kx:=E 8 _ rfl;have Ky:=E 9 _ rfl;have Kz:=E 10 _ rfl;have Es:=E 11 _ rfl;have Et:=E 12 _ rfl;have Eu:=E 13 _ rfl;have xf:=E 14 _ rfl;have HD:=cS iQ.o;obtain⟨u9,dz⟩:=er.cells gi.o.ids rfl j ix;have hv:=aa (aoY ix);have HYE:=aa (show(jH C.ss).getD j (0,0)=(jH C.ss)[j] by simp[ix]);generalize(jH C.ss)[j]=y at *;obtain⟨q,ao,Wj,GL⟩:=afE sX.o hv.o;obtain⟨y1,y2⟩:=y;have hgu:Q<W.heap.size:=ao4 W _ u9;have sY:Q≠w.heap.size+1:=by
     intro b;have S:=(aoT gi.o Q rfl).1;have h2:=aM Wi.o;omega
    clear E hX;go_wp2;obtain⟨D,fM⟩:∃D,D=(((W.setCell (K (w.heap.size+1) 4) (A I)).setCell (K (w.heap.size+1) 5) (A L)).setCell (K (w.heap.size+1) 7) (A y1)).setCell (K (w.heap.size+1) 8) (A y2):=⟨_,rfl⟩;rw[<-fM];have dY:∀c,c≠w.heap.size+1->D.heap[c]?=W.heap[c]?:=fun c hk=>by
     rw[fM,apj _ _ _ _ hk,apj _ _ _ _ hk,apj _ _ _ _ hk,apj _ _ _ _ hk]
    have M:=aa (show D.heap[w.heap.size+1]?=some (.cells #[A 0,A 0,A kind,.bool false,A I,A L,.string ⟨#[]⟩,A y1,A y2,A 0,A 0,A r,A 0,A 0,.slice none 0 0] 233 (0,0)) by
     have hl:=aM iQ.o;obtain⟨_,he⟩:=ao1.1 iQ.o;rw[fM];simp[World.setCell,hl,ap2,he])
    have bK:=aa (show J w D by rw[fM];exact(((bf.o.setCell (by simp) _).setCell (by simp) _).setCell (by simp) _).setCell (by simp) _);have anf:D.heap.size=W.heap.size:=by rw[fM];simp[World.setCell]
    clear fM eO fL kM mJ qM Kv Cj Kw Kx Ky Kz Es Et Eu xf HD bc a6;have lZ:Hq (∀(g:Nat) (cs:Array Value) (b:TypeId) (x:Nat×Nat),W.heap[g]?=some (.cells cs b x)->b≠233->D.heap[g]?=some (.cells cs b x)):=fun g cs b x ah he=>by
     rw[dY g (by intro e';subst e';exact he (bz ah iQ.o))];exact ah
    have Pw:=aa (show hy _ D C.gY C.ss from J2 (lO.o.af uZ.o) (fun g ah=>by obtain⟨cs,gv⟩:=bt (lO.o.af uZ.o).1 ah;rw[lZ.o g _ _ _ gv (by decide),gv]) (fun g cur ah=>by rw[lZ.o g _ _ _ ah (by decide),ah]));obtain⟨go2,ang,cj,C8,_,Wk,_,_,_,_,_,anh⟩:=(hI.o.doc.af uZ.o).row qI;injection C8 with C8 _ _;injection C8 with C8;injection C8 with C8;subst C8;have Wl:=aa (show D.cell? (K go (c*4+3))=some C.gY by
     have S:=lZ.o _ _ _ _ Wk (by decide);have h2:=af uZ.o lx.o;simp only[World.cell?,Wk]at h2;simp only[World.cell?,S];exact h2)
    obtain⟨rR,xC,Lk,kl,JV,zm⟩:=bp Pw.o.1;unfold maxLen at JV;obtain⟨gs,rfl⟩:=zm q ao;have bV:=Wl.o;rw[Lk]at bV;have Cq:=aa Pw.o;rw[Lk]at Cq;have hU:=(hy.cells Cq.o rfl q ao).2.2.2;have rB:=Cq.o.2 C.ss[q] (aoY _);have Gz:=p4.o.2 C.ss[q] (aoY _);have afI:=aa GL;clear GL;generalize C.ss[q]=X at *;obtain⟨bX,bQ,aH,_,_,_⟩:=bp rB;rw[aH]at hU rB;have nJ:=aa rB;clear rB;have Px:D.cell? (K Q (j*2))=some (A y1):=by rw[apW (w:=W) (a:=(K Q (j*2))) (dY Q sY)];exact u9
    have Py:D.cell? (K Q (j*2+1))=some (A y2):=by rw[apW (w:=W) (a:=(K Q (j*2+1))) (dY Q sY)];exact dz
    have xf:=oW M.o (j:=14) rfl;have HD:=cS M.o;have GA:gs<D.heap.size:=ao4 D _ hU;have dN:=aa aH;clear aH;have ani:=aa Lk;clear Lk zm u9 dz;have anj:=aa dY;clear dY;have afJ:=aa Wj;clear Wj;have lW:=aa (show J D D.drew from(aoQ _ D).drew);go_region_with (first
     |(go_at_call 172;refine(Ca _ go (c*4) _ C.ss ⟨#[]⟩ y1 y2 _ (af lW.o Wl.o) (Pw.o.af lW.o)).mono ?_;rintro b w4 ⟨rfl,fC⟩;rw[afJ.o];have wi:J D w4:=lW.o.trans fC;replace bV:=af wi bV;replace hU:=af wi hU;replace Px:=af wi Px;replace Py:=af wi Py;replace M:=aa (bj M.o wi);replace xf:=oW M.o (j:=14) rfl;replace HD:=cS M.o;have fw:=aa wi;clear fC wi)
     |(go_at_call 146;refine(JR _ X.ad _ ?au ?ab).mono ?_;(case au=>exact nJ.o.af fw.o);(case ab=>omega);rintro b w5 ⟨u,rfl,U,qS⟩;obtain⟨Ll,Lm,oU,_,_,_⟩:=bp U;rw[aoU]at oU;subst oU;replace M:=aa (bj M.o qS);replace xf:=oW M.o (j:=14) rfl;replace HD:=cS M.o;have Pz:=aa U;clear U;have lD:=aa qS;clear qS))
    all_goals(obtain⟨w6,HE⟩:∃w6,w6=w5.setCell (K (w.heap.size+1) 14) (.slice Ll X.ad.length Lm):=⟨_,rfl⟩;rw[<-HE];clear bV hU Px Py xf HD)
    all_goals(have zn:=aa (show J w w6 by rw[HE];exact((bK.o.trans ((fw.o.trans (lD.o.mono fw.o.size)).mono bK.o.size)).setCell (by simp) _));have om:=aa (aC.o.jY zn.o);have F:=aa (show w6.heap[w.heap.size+1]?=some (.cells #[A 0,A 0,A kind,.bool false,A I,A L,.string ⟨#[]⟩,A y1,A y2,A 0,A 0,A r,A 0,A 0,.slice Ll X.ad.length Lm] 233 (0,0)) by rw[HE];exact afG M.o);have HI6:=aa (show er w6 (.slice Ll X.ad.length Lm) (X.ad.map (·.cD)) by rw[HE];exact iW Pz.o.ids (fun b=>by obtain⟨cs,gv⟩:=bt Pz.o b;exact absurd (bz gv M.o) (by decide)) _);have HF:=aa (show ∀c,(Value.slice Ll X.ad.length Lm).ownBlock=some c->w.heap.size<=c from fun c hk=>aoS (aoS bK.o.size fw.o.size) (aoT Pz.o c hk).1))
    all_goals(have jS:=oW F.o (j:=0) rfl;have q1:=oW F.o (j:=1) rfl;have kz:=oW F.o (j:=2) rfl;have xk:=oW F.o (j:=3) rfl;have GR:=oW F.o (j:=4) rfl;have xv:=oW F.o (j:=5) rfl;have UF:=oW F.o (j:=6) rfl;have UG:=oW F.o (j:=7) rfl;have UH:=oW F.o (j:=8) rfl;have UI:=oW F.o (j:=9) rfl;have UJ:=oW F.o (j:=10) rfl;have UK:=oW F.o (j:=11) rfl;have UL:=oW F.o (j:=12) rfl;have UM:=oW F.o (j:=13) rfl;have UN:=oW F.o (j:=14) rfl;clear HE)
    all_goals(go_wp2_with fail)
    all_goals(refine(xw zn.o om.o aD rfl (by omega) 0 0 kind I L y1 y2 0 0 r 0 0 false ⟨#[]⟩ _ (X.ad.map (·.cD)) HI6.o HF.o).mono ?_;rintro b w7 ⟨rfl,dU,dV,has',AZ⟩;have uX:=aa AZ;clear AZ)
    all_goals go_wp2
    all_goals go_ret
    all_goals exact .inr ⟨[sP kind (bZ n+1) d (I,L) (y1,y2) r (0,0) (X.ad.map (·.cD))],afH kO.o hi aD H1.o HYE.o k4.o afI.o,rfl,_,dU,dV,has',rfl,uX.o⟩
   ·have P:decide ((R d).length+1<=60)=false:=decide_eq_false (by omega)
    rw[P];clear P;have cZ:=aa hi;go_wp2;go_ret
    exact .inl ⟨8,by unfold kE;rw[kO.o];simp only[cZ.o,aD,if_false],rfl,bf.o⟩
theorem afK(t:lz b d m f h i l j k e a n)(M:bZ n<900000)(u v c g:Int):
  O 101 #[Z d,A a,.agg #[A u,A v],A c,A g] b fun s E=>
   (∃q,kE (n.foldl b0 c2) (bZ n) (j a).length a (u,v) c 3 g=.error q/\s=.returned (A q)/\J b E)\/
   (∃y,kE (n.foldl b0 c2) (bZ n) (j a).length a (u,v) c 3 g=.ok y/\s=.returned (A 0)/\∃r B C D,r.map bw.p=y/\gx b E d m f h i l j k e a n r B C D):=by
 have z:=aa ((aoQ b.heap.size b).alloc (aoP _) (.cells #[A u,A v] 36));have N:=aa (Wh (t.jY z.o) M u v c 3 g);clear t;generalize P:kE (n.foldl b0 c2) (bZ n) (j a).length a (u,v) c 3 g=Q at *;clear P;go_enter func101,ntmps101;go_wp2_with fail
 refine N.o.mono ?_;rintro s R (⟨q,x,rfl,F⟩|⟨y,x,rfl,r,B,C,D,I,L⟩)
 ·have w:=aa (And.intro x F);clear x F
  go_wp2;go_ret
  exact .inl ⟨q,w.o.1,rfl,z.o.trans (w.o.2.mono z.o.size)⟩
 ·have w:=aa (And.intro x (And.intro I L));clear x I L
  go_wp2;go_ret
  exact .inr ⟨y,w.o.1,rfl,r,B,C,D,w.o.2.1,w.o.2.2.after z.o⟩
theorem afL(s:lz b d m f h i l j k e a n)(L:bZ n<900000)(t u c:Int):
  O 102 #[Z d,A a,.agg #[A t,A u],A c] b fun r D=>
   (∃g,kE (n.foldl b0 c2) (bZ n) (j a).length a (t,u) c 4 0=.error g/\r=.returned (A g)/\J b D)\/
   (∃x,kE (n.foldl b0 c2) (bZ n) (j a).length a (t,u) c 4 0=.ok x/\r=.returned (A 0)/\∃q z B C,q.map bw.p=x/\gx b D d m f h i l j k e a n q z B C):=by
 have y:=aa ((aoQ b.heap.size b).alloc (aoP _) (.cells #[A t,A u] 36));have M:=aa (Wh (s.jY y.o) L t u c 4 0);clear s;generalize N:kE (n.foldl b0 c2) (bZ n) (j a).length a (t,u) c 4 0=P at *;clear N;go_enter func102,ntmps102;go_wp2_with fail
 refine M.o.mono ?_;rintro r Q (⟨g,w,rfl,E⟩|⟨x,w,rfl,q,z,B,C,F,I⟩)
 ·have v:=aa (And.intro w E);clear w E
  go_wp2;go_ret
  exact .inl ⟨g,v.o.1,rfl,y.o.trans (v.o.2.mono y.o.size)⟩
 ·have v:=aa (And.intro w (And.intro F I));clear w F I
  go_wp2;go_ret
  exact .inr ⟨x,v.o.1,rfl,q,z,B,C,v.o.2.1,v.o.2.2.after y.o⟩
theorem afM(g:e2 b a d f h i l j k e)(c p q n:Int)(s:ByteArray)(t:¬(0<=c/\c<d)):
  O 94 #[Z a,A c,.agg #[A p,A q],.string s,A n] b fun m v=>m=.returned (A 2)/\J b v:=by
 have r:=aa ((aoQ b.heap.size b).alloc (aoP _) (.cells #[A p,A q] 36));have w:=aa (Kq (g.af r.o) c p q s t);clear g t;go_enter func94,ntmps94;go_wp2_with fail
 refine w.o.mono ?_;rintro m y ⟨rfl,u⟩;have x:=aa u;clear u;go_wp2;go_ret
 exact⟨rfl,r.o.trans (x.o.mono r.o.size)⟩
theorem afN(n:e2 b d m f h i l j k e)(c s t:Int)(w:ByteArray)(y:Bool)(x:¬(0<=c/\c<m)):
  O 95 #[Z d,A c,.agg #[A s,A t],.string w,.bool y] b fun q z=>q=.returned (.tuple #[.agg #[A 0,A 0],A 2])/\J b z:=by
 have u:=aa (((aoQ b.heap.size b).alloc (aoP _) (.cells #[A s,A t] 36)).alloc (by simp) (.cells #[A 0,A 0] 36));have B:=aa (Kq (n.af u.o) c s t w x);clear n x;go_enter func95,ntmps95;go_wp2_with fail
 refine B.o.mono ?_;rintro q C ⟨rfl,r⟩;have D:=af (a:=(H (b.heap.size+1))) (v:=A 0) r (by simp[go_sem]);have E:=af (a:=(K (b.heap.size+1) 1)) (v:=A 0) r (by simp[go_sem]);have I:∀g,C.frozen? (K (b.heap.size+1) g)=false:=fun g=>by rw[r.frozen (p:=(K (b.heap.size+1) g)) (by simp)];simp[go_sem]
 have F:=aa r;clear r;go_wp2;refine bodyPost_ret (v:=.tuple #[.agg #[A 0,A 0],A 2]) (by simp[results,results95,go_sem,D,E]) rfl ?_;exact⟨rfl,((u.o.trans (F.o.mono u.o.size)).setCell (by simp) _).setCell (by simp) _⟩
theorem afO(g:e2 b a d f h i l j k e)(c n p:Int)(r:ByteArray)(s:¬(0<=c/\c<d)):
  O 97 #[Z a,A c,.agg #[A n,A p],.string r] b fun m u=>m=.returned (A 2)/\J b u:=by
 have q:=aa ((aoQ b.heap.size b).alloc (aoP _) (.cells #[A n,A p] 36));have v:=aa (Kq (g.af q.o) c n p r s);clear g s;go_enter func97,ntmps97;go_wp2_with fail
 refine v.o.mono ?_;rintro m x ⟨rfl,t⟩;have w:=aa t;clear t;go_wp2;go_ret
 exact⟨rfl,q.o.trans (w.o.mono q.o.size)⟩
theorem afP(q:e2 b d m f h i l j k e)(c u w s n:Int)(y:¬(0<=c/\c<m)):
  O 98 #[Z d,A c,.agg #[A u,A w],A s,A n] b fun r z=>r=.returned (.tuple #[.agg #[A 0,A 0],A 2])/\J b z:=by
 have x:=aa (((aoQ b.heap.size b).alloc (aoP _) (.cells #[A u,A w] 36)).alloc (by simp) (.cells #[A 0,A 0] 36));have B:=aa (GJ (q.af x.o) c u w true y);clear q y;go_enter func98,ntmps98;go_wp2_with fail
 refine B.o.mono ?_;rintro r C ⟨rfl,t⟩;have D:=af (a:=(H (b.heap.size+1))) (v:=A 0) t (by simp[go_sem]);have E:=af (a:=(K (b.heap.size+1) 1)) (v:=A 0) t (by simp[go_sem]);have I:∀g,C.frozen? (K (b.heap.size+1) g)=false:=fun g=>by rw[t.frozen (p:=(K (b.heap.size+1) g)) (by simp)];simp[go_sem]
 have F:=aa t;clear t;go_wp2;refine bodyPost_ret (v:=.tuple #[.agg #[A 0,A 0],A 2]) (by simp[results,results98,go_sem,D,E]) rfl ?_;exact⟨rfl,((x.o.trans (F.o.mono x.o.size)).setCell (by simp) _).setCell (by simp) _⟩
theorem afQ(n:e2 b d m f h i l j k e)(c t u r:Int)(y:Bool)(x:¬(0<=c/\c<m)):
  O 100 #[Z d,A c,.agg #[A t,A u],A r,.bool y] b fun q z=>q=.returned (.tuple #[.agg #[A 0,A 0],A 2])/\J b z:=by
 have w:=aa (((aoQ b.heap.size b).alloc (aoP _) (.cells #[A t,A u] 36)).alloc (by simp) (.cells #[A 0,A 0] 36));have B:=aa (GJ (n.af w.o) c t u true x);clear n x;go_enter func100,ntmps100;go_wp2_with fail
 refine B.o.mono ?_;rintro q C ⟨rfl,s⟩;have D:=af (a:=(H (b.heap.size+1))) (v:=A 0) s (by simp[go_sem]);have E:=af (a:=(K (b.heap.size+1) 1)) (v:=A 0) s (by simp[go_sem]);have I:∀g,C.frozen? (K (b.heap.size+1) g)=false:=fun g=>by rw[s.frozen (p:=(K (b.heap.size+1) g)) (by simp)];simp[go_sem]
 have F:=aa s;clear s;go_wp2;refine bodyPost_ret (v:=.tuple #[.agg #[A 0,A 0],A 2]) (by simp[results,results100,go_sem,D,E]) rfl ?_;exact⟨rfl,((w.o.trans (F.o.mono w.o.size)).setCell (by simp) _).setCell (by simp) _⟩
theorem Wm(g:e2 b a d f h i l j k e)(c q r p kind n:Int)(t:¬(0<=c/\c<d)):
  O 150 #[Z a,A c,.agg #[A q,A r],A p,.agg #[A 0,A 0,A kind,.bool false,A 0,A 0,.string ⟨#[]⟩,A 0,A 0,A 0,A 0,A n,A 0,A 0,.slice none 0 0]] b fun m v=>m=.returned (A 2)/\J b v:=by
 have s:=aa (((aoQ b.heap.size b).alloc (aoP _) (.cells #[A q,A r] 36)).alloc (by simp) (.cells #[A 0,A 0,A kind,.bool false,A 0,A 0,.string ⟨#[]⟩,A 0,A 0,A 0,A 0,A n,A 0,A 0,.slice none 0 0] 233));have w:=aa (GJ (g.af s.o) c q r true t);clear g t;go_enter func150,ntmps150;go_wp2_with fail
 refine w.o.mono ?_;rintro m y ⟨rfl,u⟩;have x:=aa u;clear u;go_wp2;go_ret
 exact⟨rfl,s.o.trans (x.o.mono s.o.size)⟩
theorem afR(g:e2 b a d f h i l j k e)(c q r m n:Int)(t:¬(0<=c/\c<d)):
  O 101 #[Z a,A c,.agg #[A q,A r],A m,A n] b fun p v=>p=.returned (A 2)/\J b v:=by
 have s:=aa ((aoQ b.heap.size b).alloc (aoP _) (.cells #[A q,A r] 36));have w:=aa (Wm (g.af s.o) c q r m 3 n t);clear g t;go_enter func101,ntmps101;go_wp2_with fail
 refine w.o.mono ?_;rintro p y ⟨rfl,u⟩;have x:=aa u;clear u;go_wp2;go_ret
 exact⟨rfl,s.o.trans (x.o.mono s.o.size)⟩
theorem afS(g:e2 b a d f h i l j k e)(c p q m:Int)(s:¬(0<=c/\c<d)):
  O 102 #[Z a,A c,.agg #[A p,A q],A m] b fun n u=>n=.returned (A 2)/\J b u:=by
 have r:=aa ((aoQ b.heap.size b).alloc (aoP _) (.cells #[A p,A q] 36));have v:=aa (Wm (g.af r.o) c p q m 4 0 s);clear g s;go_enter func102,ntmps102;go_wp2_with fail
 refine v.o.mono ?_;rintro n x ⟨rfl,t⟩;have w:=aa t;clear t;go_wp2;go_ret
 exact⟨rfl,r.o.trans (w.o.mono r.o.size)⟩
structure c0 (F aS:Nat->Prop) (w w':World):Prop where
 os:w'.os=w.os
 tape:w'.tape=w.tape
 output:w'.output=w.output
 size:w.heap.size<=w'.heap.size
 other:∀k,k<w.heap.size->¬F k->w'.heap[k]?=w.heap[k]?
 sub:∀k,aS k->F k\/w.heap.size<=k
theorem c0.cQ{w w':World}(h:J w w'):c0 q q w w':=
 ⟨h.os,h.tape,h.output,h.size,fun k a _=>h.block k a,fun _ h=>.inl h⟩
structure sZ (w:World) (r:Nat) (F:Nat->Prop) (N:Nat) (P:Nat->List bu) (has:Nat->Nat->Nat) (aN aG aQ:Value) (aV:Nat->Value) (cops:Nat->List bw) (cp:Nat->Nat->Value):Prop where
 room:e2 w r N aN aG aQ aV cops cp has
 apart:Apart N aV cp
 ops:∀i,i<N->(cops i).map bw.p=P i
 cd:F r
 p8:∀k,aN.ownBlock=some k->F k
 mr:∀k,aG.ownBlock=some k->F k
 qV:∀i,i<N->∀k,(aV i).ownBlock=some k->F k
 qW:∀c,c<N->∀k,(cp c 0).ownBlock=some k->F k
 fold:∀i,i<N->∀o∈cops i,∀k,o.dq.ownBlock=some k->F k
 lt:∀k,F k->k<w.heap.size
def isRef (w:World) (r:Nat) (F:Nat->Prop) (N:Nat) (P:Nat->List bu) (a:Nat->Nat->Nat):Prop:=∃b c d e f g,sZ w r F N P a b c d e f g
theorem isRef.lt{w r N F P has}(h:isRef w r F N P has):∀k,F k->k<w.heap.size:=by obtain⟨_,_,_,_,_,_,h⟩:=h;exact h.lt
theorem isRef.hN{w r N F P has}(h:isRef w r F N P has):N<=4:=by obtain⟨_,_,_,_,_,_,h⟩:=h;exact h.room.hN
theorem isRef.len{r F P}(h:isRef b r F a P e){i:Nat}(c:i<a):(P i).length<=60:=by
 obtain⟨_,_,_,_,_,_,h⟩:=h;have :=h.room.hsz i c;rw[<-h.ops i c,aoU];exact this
theorem isRef.af{w r P has}{w':World}(h:isRef w r q a P has)(l:w.heap.size<=w'.heap.size)(d:∀k,q k->w'.heap[k]?=w.heap[k]?):isRef w' r q a P has:=by
 obtain⟨m,n,p,s,t,u,h⟩:=h;refine⟨m,n,p,s,t,u,⟨?_,h.room.hN,b4 h.room.hq (fun g b=>d g (h.p8 g b)),fun i e=>⟨b4 (h.room.dZ i e).1 (fun g b=>d g (h.qV i e g b)),fun o f=>b4 ((h.room.dZ i e).2 o f) (fun g b=>d g (h.fold i e o f g b))⟩,
  b4 h.room.fx (fun g b=>d g (h.mr g b)),fun c j=>b4 (h.room.hH c j) (fun g b=>d g (h.qW c j g b)),h.room.hle,h.room.hsz⟩,h.apart,h.ops,h.cd,h.p8,h.mr,h.qV,h.qW,h.fold,fun k v=>aoV (h.lt k v) l⟩
 rw[d r h.cd];exact h.room.aI
theorem isRef.below{P}(h:isRef b a q d P e)(c:J b v):isRef v a q d P e:=
 h.af c.size fun k f=>c.block k (h.lt k f)
structure Own (N:Nat) (P:Nat->List bu) (has:Nat->Nat->Nat) (c:Nat) (S:List bu):Prop where
 hc:c<N
 perm:S.Perm ((List.range N).flatMap fun i=>(P i).take (has c i))
 sort:xl S
 all:has c c=(P c).length
 cnt:∀p∈S,p.id.1<=1000
theorem Own.top(h:Own a s e d n):bZ n<900000:=by
 obtain⟨_,_,b⟩:=GU n;rcases b with b|⟨p,c,b⟩
 ·omega
 ·have :=h.cnt p c;omega
theorem sZ.perm(n:sZ b d q a s e f h i l j k)(m:Nat->Nat):(iV j m a).map bw.p=(List.range a).flatMap fun c=>(s c).take (m c):=by
 unfold iV;rw[List.map_flatMap];have :∀g,g<=a->((List.range g).flatMap fun c=>((j c).take (m c)).map bw.p)=(List.range g).flatMap fun c=>(s c).take (m c):=by
  intro g o
  induction g with
  |zero=>rfl
  |succ g ih=>
   rw[apz,apt,apt,ih (by omega)];simp[n.ops g (by omega),aqm]
 exact this a (aoP _)
theorem sZ.xW(c:sZ b m q d s e f h i l j k)(g:Own d s e a n):lz b m d f h i l j k e a n:=
 {room:=c.room,hc:=g.hc,perm:=by rw[c.perm];exact g.perm,sort:=g.sort,apart:=c.apart
  all:=by rw[g.all,<-c.ops a g.hc,aoU]
  cnt:=fun o r=>by
   have t:o.p∈n:=by
    refine g.perm.mem_iff.2 ?_;rw[<-c.perm (e a)];exact aoX.2 ⟨o,r,rfl⟩
   have :=g.cnt _ t;omega}
theorem sZ.wrote{F I L w}(t:sZ b m q d s e f h i l j k)(C:Own d s e a n)(y:gx b v m d f h i l j k e a n w F I L):
  ∃M,isRef v m M d (upd s a (s a++w.map bw.p)) (fun u g=>if u=a/\g=a then(s a++w.map bw.p).length else e u g)/\c0 q M b v:=by
 have P:L=fun u g=>if u=a/\g=a then(s a++w.map bw.p).length else e u g:=by
  rw[y.ad];funext u g;by_cases r:u=a/\g=a
  ·simp[r,C.all]
  ·simp only[r,if_false]
 refine⟨fun c=>q c\/(b.heap.size<=c/\c<v.heap.size),⟨f,h,i,F,I,k,by rw[<-P];exact y.wr.room,y.wr.apart,?_,.inl t.cd,fun c x=>.inl (t.p8 c x),fun c x=>.inl (t.mr c x),?_,fun u Q c x=>.inl (t.qW u Q c x),?_,?_⟩,y.os,y.tape,y.output,y.size,?_,fun c x=>x.imp id (·.1)⟩
 ·intro g z
  rw[y.ops];by_cases r:g=a
  ·subst r;rw[bN,bN,ao8,t.ops g z]
  ·rw[ck _ _ r,ck _ _ r,t.ops g z]
 ·intro g z c x
  by_cases r:g=a
  ·subst r
   rcases y.new with D|D
   ·exact .inl (t.qV g z c (by rw[<-D];exact x))
   ·exact .inr ⟨D c x,(aoT (y.wr.room.dZ g z).1 c x).2⟩
  ·rw[y.aB g r]at x
   exact .inl (t.qV g z c x)
 ·intro g z o N c x
  have B:=N;rw[y.ops]at B;by_cases r:g=a
  ·subst r
   rw[bN]at B;rcases aoZ.1 B with B|B
   ·exact .inl (t.fold g z o B c x)
   ·exact .inr ⟨y.AA o B c x,(aoT ((y.wr.room.dZ g z).2 o N) c x).2⟩
  ·rw[ck _ _ r]at B
   exact .inl (t.fold g z o B c x)
 ·intro c x
  rcases x with x|x
  ·exact aoV (t.lt c x) y.size
  ·exact x.2
 ·intro c x E
  exact y.other c x (fun r=>E (t.p8 c r.symm)) (fun r=>E (t.qW a C.hc c r.symm)) (fun r=>E (t.qV a C.hc c r.symm))
end
section
open Go.RowKit Tryz
attribute [local go_sem ↓] Go.wp_at_zero Go.wp_at_succ
variable {a f i:World}{b h:Nat}{d e:Nat->Prop}
theorem iN.Wn{c}(h:iN a (some b) c):b<a.heap.size:=by
 rcases h with⟨h,_⟩|⟨f,g,i,e,d⟩
 ·cases h
 ·cases e;exact d.lt
theorem fR.there{f j l}(c:fR b h d j l)(m:cu a f b h j l):fR b h (fun k=>d k/\k<a.heap.size) j l:=by
 refine⟨c.ne,fun g=>c.ro g.1,fun g=>c.ES g.1,fun p i e g=>⟨c.fE p i e g,?_⟩,fun p i k n e g=>⟨c.ij p i k n e g,?_⟩,fun p i e g=>⟨c.gr p i e g,?_⟩⟩
 ·exact rF.lt (m.hk p i) e g
 ·have :=(m.hk p i).2 k n
  rw[g]at this;exact this.Wn
 ·have :=m.aH p i
  rw[g]at this;exact this.Wn
theorem setRow{w:World}{g i:Nat}{a:Array Value}{t:TypeId}{u:Value}(h:w.heap[g]?=some (.cells a t (0,0))):(w.setCell (K g i) u).heap[g]?=some (.cells (a.setIfInBounds i u) t (0,0)):=by
 have b:=aM h;obtain⟨_,c⟩:=ao1.1 h;simp[World.setCell,b,ap2,c]
theorem afT{g i c d e f u:Value}{t:TypeId}(h:a.heap[b]?=some (.cells #[g,i,c,d,e,f] t (0,0))):(a.setCell (K b 1) u).heap[b]?=some (.cells #[g,u,c,d,e,f] t (0,0)):=by
 have j:=aM h;obtain⟨_,k⟩:=ao1.1 h;simp[World.setCell,j,ap2,k]
theorem c0.before(b:J a f)(h:c0 d e f i):c0 d e a i:=
 ⟨h.os.trans b.os,h.tape.trans b.tape,h.output.trans b.output,aoS b.size h.size,fun k c hF=>(h.other k (aoV c b.size) hF).trans (b.block k c),fun k c=>(h.sub k c).imp id fun g=>aoS b.size g⟩
theorem c0.after(h:c0 d e a f)(b:J f i):c0 d e a i:=
 ⟨b.os.trans h.os,b.tape.trans h.tape,b.output.trans h.output,aoS h.size b.size,fun k c hF=>(b.block k (aoV c h.size)).trans (h.other k c hF),h.sub⟩
theorem c0.va(c:c0 d e a f)(i:a.heap.size<=b)(u:Value):c0 d e a (f.setCell (K b h) u):=
 ⟨c.os,c.tape,c.output,by simpa[World.setCell]using c.size,fun k g hF=>(dI (by omega)).trans (c.other k g hF),c.sub⟩
theorem c0.trans{F c d w e f}(h:c0 F c w e)(k:c0 c d e f):c0 F d w f:=
 ⟨k.os.trans h.os,k.tape.trans h.tape,k.output.trans h.output,aoS h.size k.size,fun i b hF=>(k.other i (aoV b h.size) fun a=>(h.sub i a).elim hF fun g=>by omega).trans (h.other i b hF),
  fun i b=>(k.sub i b).elim (fun a=>h.sub i a) fun a=>.inr (aoS h.size a)⟩
end
end Go.Proofs.YtnkpogjiiohapaaGreatDoor
