/- Our own text. -/
import Derived.Test.YtnkpogjiiohapaaGreatDoorA13
import Derived.Test.YtnkpogjiiohapaaGreatDoorA06
set_option linter.unusedSimpArgs false
set_option linter.unusedVariables false
set_option maxRecDepth 1000000
set_option maxHeartbeats 1600000
namespace Go.Proofs.YtnkpogjiiohapaaGreatDoor
open Go.RowKit Tryz
variable {a:List ba}{b f r:Nat}{d:ba}{e:Int}{h:List bu}{i:Nat->List bw}{j:Nat->Nat->Nat}{k:Nat->Nat->Value}{l:Nat->Value}{m q s:Value}{n:World}{u:PId}{v:bU}
theorem Hv(R:List ba)(x:PId)(b:Bool):(bl R x=none/\oF R x b=.error 3)\/∃o k,bl R x=some o/\R[k]?=some o/\oF R x b=if o.list=b then .ok k else .error 4:=by
 unfold oF;by_cases a:cK (iL x) R<0
 ·rw[if_pos a]
  exact .inl ⟨Hm.1 a,rfl⟩
 ·rw[if_neg a]
  have d:=E8 a;obtain⟨c,e,f⟩:=aqc.1 d;refine .inr ⟨R[(cK (iL x) R).toNat],(cK (iL x) R).toNat,?_,by simp[c],?_⟩
  ·unfold bl
   rw[aqF];exact⟨e,_,c,rfl,fun j g=>by simpa using f j g⟩
  ·rw[apH c]
theorem Pj(c:(a.map ba.id).Nodup)(e:d∈a):bl a d.id=some d:=by
 unfold bl;obtain⟨k,b,rfl⟩:=apl.1 e;rw[aqF];refine⟨E6.2 rfl,k,b,rfl,fun j f=> ?_⟩;have :=apM.1 (apB.1 c) j k (by omega) b f;cases h:iL a[k].id a[j]
 ·rfl
 ·exact absurd (E6.1 h) this
theorem mem_modify {α:Type} {f:α->α} {l:List α} {a:α} (h:a∈l.modify b f):a∈l\/∃c∈l,l[b]?=some c/\a=f c:=by
 obtain⟨j,d,rfl⟩:=apl.1 h;rw[List.length_modify]at d;rw[List.getElem_modify];by_cases e:b=j
 ·subst e
  simp only[if_true];exact .inr ⟨l[b],aoY d,by simp[d],rfl⟩
 ·rw[if_neg e]
  exact .inl (aoY d)
structure sW (R:List ba) (t:Int) (n:Nat):Prop where
 ids:(R.map ba.id).Nodup
 top:0<=t
 Pk:∀o∈R,o.id.1<=t
 Pl:∀o∈R,∀s∈o.ss,s.id.1<=t
 VZ:∀o∈R,∀s∈o.ss,∀h∈s.ad,h.cD.1<=t
 uW:∀o∈R,∀s∈o.ss,s.key.size<=4
 nums:∀o∈R,∀s∈o.ss,∀h∈s.ad,ka h.num
 sz:∀o∈R,∀s∈o.ss,∀h∈s.ad,∃o',bl R h.obj=some o'
 one:∀o∈R,∀s∈o.ss,s.ad.length<=1
 root:∃o,bl R (0,0)=some o/\o.list=false
 cnt:∀o∈R,o.ss.length<=n
structure Next (R:List ba) (t:Int) (p:bu):Prop where
 new:t<p.id.1
 kind:p.kind=1\/p.kind=2\/p.kind=3\/p.kind=4
 lay:p.kind=2->∃o,bl R p.object=some o/\o.list=true/\(p.behind=(0,0)\/p.behind∈o.ss.map bU.id)
 val:p.kind=3\/p.kind=4->∃o,bl R p.object=some o/\((o.list=false/\p.key≠⟨#[]⟩/\p.element=(0,0))\/(o.list=true/\p.key=⟨#[]⟩/\p.element∈o.ss.map bU.id))/\p.old=(fD o p.key p.element).map cE.cD
 obj:p.kind=3->∃o,bl R p.obj=some o
 uW:p.key.size<=4
 num:ka p.num
theorem V0{a:ByteArray}{h:cE}(b:h∈fD d a u):∃s∈d.ss,eG a u s=true/\s.ad=fD d a u:=by
 unfold fD at b⊢;cases c:d.ss.find? (eG a u) with
 |none=>rw[c]at b;cases b
 |some s=>exact⟨s,aqi c,aqH c,rfl⟩
theorem sW.fit{p}(h:sW a e b)(d:Next a e p):Fit a p:=by
 have l:=d.new;have r:=h.top;refine⟨d.kind,fun f=> ?_,fun f=>⟨fun c=> ?_,fun x o g n=> ?_,d.lay f⟩,fun f=> ?_,d.obj⟩
 ·cases m:bl a p.id with
  |none=>rfl
  |some o=>
   have i:=h.Pk o (AY m);rw[Hl m]at i;omega
 ·rw[c]at l
  simp at l;omega
 ·obtain⟨s,j,k⟩:=aoX.1 n
  have :=h.Pl o (AY g) s j;rw[k]at this;omega
 ·obtain⟨o,i,q,t⟩:=d.val f
  refine⟨o,i,q,fun x g c=> ?_⟩;obtain⟨s,j,_,k⟩:=V0 g;have :=h.VZ o (AY i) s j x (k▸g);rw[c]at this;omega
theorem afe{p:bu}(a:v∈(e9 p d).ss):v∈d.ss\/(v.key=⟨#[]⟩/\v.id=p.id/\v.ad=[])\/(p.kind≠2/\v.key=p.key/\v.id=(0,0)/\v.ad=hb p.old [] p.kind p.held)\/
  p.kind≠2/\∃s0∈d.ss,v.key=s0.key/\v.id=s0.id/\eG p.key p.element s0=true/\s0.ad=fD d p.key p.element/\v.ad=hb p.old s0.ad p.kind p.held:=by
 unfold e9 at a;split at a
 ·split at a
  ·simp only[oD]at a
   have b:∀{l:List bU} {k:Nat},v∈lr l k (me ⟨#[]⟩ p.id)->v∈l\/(v.key=⟨#[]⟩/\v.id=p.id/\v.ad=[]):=by
    intro l k a;unfold lr at a;rw[aoZ,ao3]at a;rcases a with a|a|a
    ·exact .inl (apx a)
    ·subst a;exact .inr ⟨rfl,rfl,rfl⟩
    ·exact .inl (ap0 a)
   split at a
   ·exact(b a).imp id .inl
   ·split at a
    ·exact .inl a
    ·exact(b a).imp id .inl
  ·exact .inl a
 ·rename_i c
  split at a
  ·simp only[kN]at a
   split at a
   ·split at a
    ·exact .inl a
    ·rcases aoZ.1 a with a|a
     ·exact .inl a
     ·simp at a
      subst a;exact .inr (.inr (.inl ⟨c,rfl,rfl,rfl⟩))
   ·rename_i h
    rcases mem_modify a with a|⟨s0,i,e,rfl⟩
    ·exact .inl a
    ·have m:=E8 h
     obtain⟨f,g,n⟩:=aqc.1 m;rw[apH f]at e;cases e;refine .inr (.inr (.inr ⟨c,_,i,rfl,rfl,g,?_,rfl⟩));unfold fD;rw[aqF.2 ⟨g,_,f,rfl,fun j o=>by simpa using n j o⟩]
  ·exact .inl a
theorem aff(p:bu)(o:ba):(e9 p o).ss.length<=o.ss.length+1:=by
 have a:∀(l:List bU) (k:Nat) (s:bU),(lr l k s).length<=l.length+1:=fun l k s=>by
  unfold lr;rw[aoW,apd,ao7,apm];omega
 unfold e9;split
 ·split
  ·simp only[oD]
   split
   ·exact a _ _ _
   ·split
    ·omega
    ·exact a _ _ _
  ·omega
 ·split
  ·simp only[kN]
   split
   ·split
    ·omega
    ·simp
   ·simp
  ·omega
theorem Pm{p:bu}(b:d∈b0 a p):d∈a\/(p.kind=1/\d=⟨p.id,p.list,[]⟩)\/∃c∈a,p.kind≠1/\bl a p.object=some c/\d=e9 p c:=by
 unfold b0 at b;split at b
 ·rename_i e
  rcases aoZ.1 b with b|b
  ·exact .inl b
  ·simp at b
   exact .inr (.inl ⟨e,b⟩)
 ·rename_i e
  split at b
  ·exact .inl b
  ·rename_i h
   rcases mem_modify b with b|⟨c,i,f,rfl⟩
   ·exact .inl b
   ·refine .inr (.inr ⟨c,i,e,?_,rfl⟩)
    have k:=E8 h;obtain⟨g,l,m⟩:=aqc.1 k;rw[apH g]at f;cases f;unfold bl;rw[aqF];exact⟨l,_,g,rfl,fun j n=>by simpa using m j n⟩
theorem V1{p:bu}(b:bl a u=some d):∃c,bl (b0 a p) u=some c/\c.list=d.list:=by
 by_cases e:p.kind=1
 ·exact⟨d,by rw[wh e,b],rfl⟩
 ·rw[zj e]
  split
  ·exact⟨e9 p d,by rw[b];rfl,by unfold e9;split <;>split <;>rfl⟩
  ·exact⟨d,b,rfl⟩
theorem sW.step{n p}(h:sW a e n)(m:Next a e p):sW (b0 a p) p.id.1 (n+1):=by
 have P:=m.new;have Q:=h.top;have D:=h.fit m;have t:∀o∈b0 a p,∀s∈o.ss,(∃b∈a,s∈b.ss)\/(s.key=⟨#[]⟩/\s.id=p.id/\s.ad=[])\/((p.kind=3\/p.kind=4)/\s.key=p.key/\s.id=(0,0)/\s.ad=hb p.old [] p.kind p.held)\/
   (p.kind=3\/p.kind=4)/\∃b,bl a p.object=some b/\∃s0∈b.ss,s.key=s0.key/\s.id=s0.id/\eG p.key p.element s0=true/\s0.ad=fD b p.key p.element/\s.ad=hb p.old s0.ad p.kind p.held:=by
  intro o c s j;rcases Pm c with c|⟨_,rfl⟩|⟨b,f,R,u,rfl⟩
  ·exact .inl ⟨o,c,j⟩
  ·cases j
  ·have z:p.kind≠2->p.kind=3\/p.kind=4:=fun q=>by have :=m.kind;omega
   rcases afe j with k|k|⟨q,k⟩|⟨q,k⟩
   ·exact .inl ⟨b,f,k⟩
   ·exact .inr (.inl k)
   ·exact .inr (.inr (.inl ⟨z q,k⟩))
   ·exact .inr (.inr (.inr ⟨z q,b,u,k⟩))
 have v:∀o∈b0 a p,∀s∈o.ss,∀x∈s.ad,(∃b∈a,∃s0∈b.ss,x∈s0.ad)\/(p.kind=3/\x=p.held):=by
  intro o c s j x i;have B:∀d:List cE,x∈hb p.old d p.kind p.held->x∈d\/(p.kind=3/\x=p.held):=by
   intro d i;unfold hb at i;rcases aoZ.1 i with i|i
   ·exact .inl (apA.1 i).1
   ·split at i
    ·rename_i l
     exact .inr ⟨l,by simpa using i⟩
    ·cases i
  rcases t o c s j with⟨b,f,d⟩|⟨_,_,g⟩|⟨_,_,_,g⟩|⟨_,b,f,s0,d,_,_,_,_,g⟩
  ·exact .inl ⟨b,f,s,d,i⟩
  ·rw[g]at i;cases i
  ·rw[g]at i
   exact(B [] i).imp (fun k=>by cases k) id
  ·rw[g]at i
   exact(B _ i).imp (fun k=>⟨b,AY f,s0,d,k⟩) id
 refine⟨?_,by omega,?_,?_,?_,?_,?_,?_,?_,?_,?_⟩
 ·by_cases l:p.kind=1
  ·have E:=D.make l
   unfold b0;rw[if_pos l,ao8];have m:=aq6 (l₁:=a.map ba.id) (l₂:=[p.id]);refine(m.nodup_iff).2 (apg.2 ⟨fun F=> ?_,h.ids⟩);obtain⟨o,c,g⟩:=aoX.1 F;have :=Pj h.ids c;rw[g,E]at this;cases this
  ·unfold b0
   rw[if_neg l];split
   ·exact h.ids
   ·rw[Ue (Pb p)]
    exact h.ids
 ·intro o c
  rcases Pm c with c|⟨_,rfl⟩|⟨b,f,_,_,rfl⟩
  ·have :=h.Pk o c;omega
  ·exact apY _
  ·rw[Pb]
   have :=h.Pk b f;omega
 ·intro o c s j
  rcases t o c s j with⟨b,f,d⟩|⟨_,g,_⟩|⟨_,_,g,_⟩|⟨_,b,f,s0,d,_,g,_⟩
  ·have :=h.Pl b f s d;omega
  ·rw[g];exact apY _
  ·rw[g];show(0:Int)<=_;omega
  ·rw[g]
   have :=h.Pl b (AY f) s0 d;omega
 ·intro o c s j x i
  rcases v o c s j x i with⟨b,f,s0,d,r⟩|⟨_,rfl⟩
  ·have :=h.VZ b f s0 d x r;omega
  ·exact apY _
 ·intro o c s j
  rcases t o c s j with⟨b,f,d⟩|⟨g,_⟩|⟨_,g,_⟩|⟨_,b,f,s0,d,g,_⟩
  ·exact h.uW b f s d
  ·rw[g];show(0:Nat)<=4;omega
  ·rw[g];exact m.uW
  ·rw[g];exact h.uW b (AY f) s0 d
 ·intro o c s j x i
  rcases v o c s j x i with⟨b,f,s0,d,r⟩|⟨_,rfl⟩
  ·exact h.nums b f s0 d x r
  ·exact m.num
 ·intro o c s j x i
  have :∃C,bl a x.obj=some C:=by
   rcases v o c s j x i with⟨b,f,s0,d,r⟩|⟨l,rfl⟩
   ·exact h.sz b f s0 d x r
   ·exact m.obj l
  obtain⟨C,I⟩:=this;obtain⟨w,q,_⟩:=V1 (p:=p) I;exact⟨w,q⟩
 ·intro o c s j
  have L:∀d:List cE,p.old=d.map cE.cD->(hb p.old d p.kind p.held).length<=1:=by
   intro d g;have :unnamed p.old d=[]:=by
    unfold unnamed;rw[List.filter_eq_nil_iff];intro x i;have :x.cD∈p.old:=by rw[g];exact aoX.2 ⟨x,i,rfl⟩
    simp[this]
   unfold hb;rw[this];split <;>simp
  rcases t o c s j with⟨b,f,d⟩|⟨_,_,g⟩|⟨l,_,_,g⟩|⟨l,b,f,s0,d,_,_,_,M,g⟩
  ·exact h.one b f s d
  ·rw[g];simp
  ·rw[g]
   unfold hb unnamed;split <;>simp
  ·rw[g]
   obtain⟨S,u,_,y⟩:=m.val l;rw[f]at u;cases u;exact L _ (by rw[M];exact y)
 ·obtain⟨o,c,N⟩:=h.root
  obtain⟨w,q,y⟩:=V1 (p:=p) c;exact⟨w,q,y.trans N⟩
 ·intro o c
  rcases Pm c with c|⟨_,rfl⟩|⟨b,f,_,_,rfl⟩
  ·have :=h.cnt o c;omega
  ·simp
  ·have :=aff p b
   have :=h.cnt b f;omega
theorem V2(h:u∈dw d):u∈d.ss.map bU.id:=by
 unfold dw at h;obtain⟨s,a,b⟩:=aoX.1 h;exact aoX.2 ⟨s,(apA.1 a).1,b⟩
theorem afg(d c:Int)(f:e<d)(g:Bool):Next a e (qe d c g):=
 ⟨f,.inl rfl,fun b=>absurd b (by show ¬(1:Int)=2;omega),fun b=>absurd b (by show ¬((1:Int)=3\/(1:Int)=4);omega),fun b=>absurd b (by show ¬(1:Int)=3;omega),aoR _,by unfold ka qe;simp⟩
theorem eA.made{m D}(h:sW a e m)(d:eA a D)(c:Int)(b:Bool):eA (b0 a (qe (e+1) c b)) (cv (e+1,c) ⟨b,none,[],(0,0)⟩ D.1,D.2):=
 d.make (p:=qe (e+1) c b) rfl ((h.fit (afg (e+1) c (by omega) b)).make rfl)
theorem V3(n:Int)(h:ka n):(yG n).size<=21:=TQ n h.1 h.2
theorem afh(q:Nat):0<(Lib.decDigits q).length:=by
 rw[Lib.decDigits];split <;>simp
theorem afi(n:Int):0<(yG n).size:=by
 show 0<(Lib.itoa n).toArray.size;rw[ap8];unfold Lib.itoa;split
 ·simp
 ·exact afh _
def lF (a:ByteArray):List ByteArray->ByteArray
 |[]=>⟨#[]⟩
 |x::l=>l.foldl (fun s y=>(s++a)++y) x
theorem afj(a:ByteArray)(l:List ByteArray)(y:ByteArray)(h:l≠[]):lF a (l++[y])=(lF a l++a)++y:=by
 cases l with
 |nil=>exact absurd rfl h
 |cons x l=>simp[lF,apX]
theorem V4(a:ByteArray):a.toList.isEmpty=true↔a.size=0:=by
 constructor
 ·intro h
  have :a=⟨#[]⟩:=key_inj (by rw[GW];exact List.isEmpty_iff.1 h);rw[this];rfl
 ·intro h
  have :a=⟨#[]⟩:=by apply aqG;exact Array.eq_empty_of_size_eq_zero h
  rw[this,GW];rfl
theorem V5(b:ByteArray){l:List ByteArray}(h:l≠[])(c:∀x∈l,0<x.size):0<(lF b l).size:=by
 cases l with
 |nil=>exact absurd rfl h
 |cons x l=>
  have d:=c x ao6;have :∀(l:List ByteArray) (a:ByteArray),0<a.size->0<(l.foldl (fun s y=>(s++b)++y) a).size:=by
   intro l
   induction l with
   |nil=>intro a h;exact h
   |cons y l ih=>intro a h;exact ih _ (by rw[jV,jV];omega)
  exact this l x d
def xT (a:PId->ByteArray) (b:Bool) (s:bU):ByteArray:=if b then kP a s.ad else(s.key++colon)++kP a s.ad
def l1 (s:bU):Bool:=decide (0<s.ad.length)
theorem afk(a b c:ByteArray):(a++b)++c=a++(b++c):=by apply aqG;simp[Array.append_assoc]
theorem afl(a:PId->ByteArray)(b:Bool){L:List ByteArray}(d:∀x∈L,0<x.size)(s:bU)(c:l1 s=true):mg a b (lF comma L) s=lF comma (L++[xT a b s]):=by
 unfold l1 at c;simp at c;unfold mg;rw[if_neg (by omega)];cases L with
 |nil=>
  have :(lF comma []).toList.isEmpty=true:=(V4 _).2 rfl;simp only[this,if_true];show(if b=true then(⟨#[]⟩:ByteArray) else((⟨#[]⟩:ByteArray)++s.key)++colon)++_=xT a b s;unfold xT;rw[empty_append];split
  ·rw[empty_append]
  ·rfl
 |cons x L=>
  rw[afj _ _ _ (by simp)];have e:=V5 comma (l:=x::L) (by simp) d;have :(lF comma (x::L)).toList.isEmpty=false:=by
   cases h:(lF comma (x::L)).toList.isEmpty
   ·rfl
   ·rw[(V4 _).1 h]at e;omega
  simp only[this,apG,if_false];unfold xT;split
  ·rfl
  ·simp only[afk]
theorem afm(a:PId->ByteArray)(c:Bool)(M:List bU)(e:∀s∈M,l1 s=true->0<(xT a c s).size):lS a c M=lF comma ((M.filter l1).map (xT a c)):=by
 have :∀(M:List bU),(∀s∈M,l1 s=true->0<(xT a c s).size)->∀(L:List ByteArray),(∀x∈L,0<x.size)->M.foldl (mg a c) (lF comma L)=lF comma (L++(M.filter l1).map (xT a c)):=by
  intro M
  induction M with
  |nil=>intro _ L _;simp
  |cons s M ih=>
   intro e L f;rw[aqr];cases b:l1 s
   ·have :mg a c (lF comma L) s=lF comma L:=by
     unfold l1 at b;simp at b;unfold mg;rw[if_pos (by simp[b])]
    rw[this,ih (fun s b=>e s (apa _ b)) L f];simp[b]
   ·rw[afl a c f s b,ih (fun s b=>e s (apa _ b))]
    ·simp[b]
    ·intro x d
     rcases aoZ.1 d with d|d
     ·exact f x d
     ·simp at d
      subst d;exact e s ao6 b
 exact this M e [] (by simp)
theorem afn(b:PId->ByteArray)(d:Bool)(c:Nat)(M:List bU)(f:∀s∈M,s.key.size<=4/\(kP b s.ad).size<=c):(lS b d M).size<=M.length*(6+c):=by
 have :∀(M:List bU),(∀s∈M,s.key.size<=4/\(kP b s.ad).size<=c)->∀a:ByteArray,(M.foldl (mg b d) a).size<=a.size+M.length*(6+c):=by
  intro M
  induction M with
  |nil=>intro _ a;simp
  |cons s M ih=>
   intro f a;rw[aqr];have h:=ih (fun s g=>f s (apa _ g)) (mg b d a s);have i:=f s ao6;have j:(mg b d a s).size<=a.size+(6+c):=by
    unfold mg;have k:comma.size=1:=rfl;have l:colon.size=1:=rfl;split
    ·omega
    ·simp only
     split <;>split <;>simp only[jV]<;>omega
   rw[apd,aqJ];omega
 have :=this M f ⟨#[]⟩;have e:(⟨#[]⟩:ByteArray).size=0:=rfl;rw[e,apF]at this;exact this
def tW:Nat->Nat
 |0=>1
 |r+1=>2+60*(27+tW r)
theorem V6(a:v∈ie d):v∈d.ss:=by
 unfold ie pk at a;split at a
 ·exact a
 ·exact(aqy _ _).mem_iff.1 a
theorem afo(o:ba):(ie o).length=o.ss.length:=by
 unfold ie pk;split
 ·rfl
 ·exact(aqy _ _).length_eq
theorem afp(a:b<=4):60*(27+tW b)<=100000000000:=by
 have c:tW 0=1:=rfl;have d:tW 1=2+60*(27+tW 0):=rfl;have e:tW 2=2+60*(27+tW 1):=rfl;have f:tW 3=2+60*(27+tW 2):=rfl;have g:tW 4=2+60*(27+tW 3):=rfl;have :b=0\/b=1\/b=2\/b=3\/b=4:=by omega
 rcases this with rfl|rfl|rfl|rfl|rfl<;>omega
theorem sW.Ld(h:sW a e f){c:PId->ByteArray}(m:∀x,(c x).size<=b)(g:d∈a)(i:v∈d.ss):(kP c v.ad).size<=21+b:=by
 have j:=h.one d g v i;have n:=h.nums d g v i
 match k:v.ad with
 |[]=>show 0<=_;omega
 |[x]=>
  show(j9 c x).size<=_;unfold j9;split
  ·have :=V3 x.num (n x (by rw[k];simp));omega
  ·have :=m x.obj;omega
 |x::y::l=>rw[k]at j;simp at j
theorem sW.Hy(h:sW a e f)(l:f<=60){c:PId->ByteArray}(j:∀x,(c x).size<=b)(g:d∈a):(lS c d.list (ie d)).size<=60*(27+b):=by
 have k:=afn c d.list (21+b) (ie d) (fun s i=>⟨h.uW d g s (V6 i),h.Ld j g (V6 i)⟩);rw[afo]at k;have m:=h.cnt d g;have :d.ss.length*(6+(21+b))<=60*(6+(21+b)):=apJ _ (by omega);omega
theorem sW.Le(h:sW a e b)(c:b<=60)(r:Nat):∀x:PId,(oG a r x).size<=tW r:=by
 induction r with
 |zero=>exact fun x=>aoP 1
 |succ r ih=>
  intro x;show(match a.find? (iL x) with |some o=>uC (oG a r) o.list (ie o)|none=>⟨#[]⟩).size<=_;cases d:a.find? (iL x) with
  |none=>show 0<=_;omega
  |some o=>
   have :=h.Hy c ih (aqi d);show(uC (oG a r) o.list (ie o)).size<=2+60*(27+tW r);unfold uC;have f:(⟨#[91]⟩:ByteArray).size=1:=rfl;have g:(⟨#[93]⟩:ByteArray).size=1:=rfl;have i:(⟨#[123]⟩:ByteArray).size=1:=rfl;have j:(⟨#[125]⟩:ByteArray).size=1:=rfl;split <;>simp only[jV]<;>omega
theorem sW.V7{D}(h:sW a e b)(f:b<=60)(k:eA a D):Ko a:=by
 refine⟨fun o c g=> ?_,fun o c s d=>aoS (h.uW o c s d) (by omega),h.nums,fun o c s d x l=>.inr ?_,fun r m o c=> ?_⟩
 ·obtain⟨p,_,i⟩:=k.bg _ o (Pj h.ids c)
  exact⟨apB.1 (i.CZ g),fun s d=>(i.keys g s d).1⟩
 ·obtain⟨n,j⟩:=h.sz o c s d x l
  exact⟨n,AY j,Hl j⟩
 ·have q:=h.Hy f (h.Le f r) c
  have t:=afp m;omega
theorem afq{S}(h:lz n f r m q s l i k j b S)(ab:bZ S<900000)(w x c:Int)(y:ByteArray)(X:y.size<=maxLen):
  O 94 #[Z f,A b,.agg #[A w,A x],.string y,A c] n fun e Y=>
   (∃d,tS (S.foldl b0 c2) (bZ S) (i b).length b (w,x) y c=.error d/\e=.returned (A d)/\J n Y)\/
   (∃bE,tS (S.foldl b0 c2) (bZ S) (i b).length b (w,x) y c=.ok bE/\e=.returned (A 0)/\∃g M N P,g.map bw.p=bE/\gx n Y f r m q s l i k j b S g M N P):=by
 have B:=aa ((aoQ n.heap.size n).alloc (aoP _) (.cells #[A w,A x] 36));have kQ:=aa (Kj (h.toShown.af B.o) w x y X);clear X;have aC:=aa h;clear h;generalize kv:S.foldl b0 c2=mf;rw[kv]at kQ;clear kv;go_enter func94,ntmps94;go_wp2_with fail
 refine kQ.o.mono ?_;rintro e w1 ⟨z,⟨d,hn,C,rfl⟩|⟨v,Q,C,hl,rfl,ay⟩⟩
 ·have aT:=aa (And.intro C z);clear C z
  have sx:¬d=0:=by omega
  clear hn;go_wp2;go_ret
  exact .inl ⟨d,by unfold tS;rw[aT.o.1],rfl,B.o.trans (aT.o.2.mono B.o.size)⟩
 ·have H1:=aa C;clear C
  have R:=af (a:=(V n 0)) (v:=A w) z (by simp[go_sem]);have bx:=af (a:=(V n 1)) (v:=A x) z (by simp[go_sem]);have pZ:n.heap.size<w1.heap.size:=ao4 w1 _ R;have D:=aa (B.o.trans (z.mono B.o.size));clear z;have nJ:=aa ay;clear ay;have U:=aa (aC.o.jY D.o);have qh:=aa (Ar U.o.room b U.o.hc 1 (by omega));go_wp2_with fail
  refine qh.o.mono ?_;rintro e E ⟨rfl,iz⟩;subst iz;by_cases W:(i b).length<60
  ·have F:decide ((i b).length+1<=60)=true:=decide_eq_true (by omega)
   rw[F];clear F;obtain⟨bX,bQ,aH,_,_,_⟩:=bp nJ.o;have dN:=aa aH;subst aH;have Co:J E E.drew:=(aoQ _ E).drew;have lW:=aa Co;clear Co;have Pn:=aa (show n.heap.size<=E.drew.heap.size from D.o.size);go_wp2;go_region_with (first
    |(go_at_call 146;refine(JR _ Q _ ?au ?ab).mono ?_;(case au=>exact nJ.o.af lW.o);(case ab=>omega);rintro e w2 ⟨u,rfl,L,aU⟩;obtain⟨kB,kC,oU,_,_,_⟩:=bp L;rw[aoU]at oU;subst oU;have I:J E w2:=lW.o.trans aU;replace R:=af I R;replace bx:=af I bx;have gj:=aa (U.o.jY I);have gi:=aa L.ids;have Fe:=aa (fun t hk=>aoS Pn.o (aoT L t hk).1);clear L;have bf:=aa (D.o.trans (I.mono D.o.size));clear aU I)
    |(go_at_call 145;refine(xw bf.o gj.o W rfl (by omega) 0 0 3 w x 0 0 0 0 c 0 0 false y _ (Q.map (·.cD)) gi.o Fe.o).mono ?_;rintro e w3 ⟨rfl,M,N,P,AZ⟩;have uX:=aa AZ;clear AZ))
   all_goals(try go_wp2)
   all_goals go_ret
   all_goals exact .inr ⟨[xN 3 (bZ S+1) b (w,x) y c (0,0) (Q.map (·.cD))],by unfold tS;rw[H1.o];simp only[W,if_true],rfl,_,M,N,P,rfl,uX.o⟩
  ·have F:decide ((i b).length+1<=60)=false:=decide_eq_false (by omega)
   rw[F];clear F;go_wp2;go_ret
   exact .inl ⟨8,by unfold tS;rw[H1.o];simp only[W,if_false],rfl,D.o⟩
theorem afr{S}(h:lz n f r m q s l i k j b S)(ab:bZ S<900000)(t w:Int)(x:ByteArray)(dO:x.size<=maxLen):
  O 97 #[Z f,A b,.agg #[A t,A w],.string x] n fun e w'=>
   (∃c,sQ (S.foldl b0 c2) (bZ S) (i b).length b (t,w) x=.error c/\e=.returned (A c)/\J n w')\/
   (∃bE,sQ (S.foldl b0 c2) (bZ S) (i b).length b (t,w) x=.ok bE/\e=.returned (A 0)/\∃d Q R U,d.map bw.p=bE/\gx n w' f r m q s l i k j b S d Q R U):=by
 have D:=aa ((aoQ n.heap.size n).alloc (aoP _) (.cells #[A t,A w] 36));have kQ:=aa (Kj (h.toShown.af D.o) t w x dO);clear dO;have aC:=aa h;clear h;generalize kv:S.foldl b0 c2=mf;rw[kv]at kQ;clear kv;go_enter func97,ntmps97;go_wp2_with fail
 refine kQ.o.mono ?_;rintro e w1 ⟨y,⟨c,hn,E,rfl⟩|⟨v,z,E,hl,rfl,ay⟩⟩
 ·have aT:=aa (And.intro E y);clear E y
  have sx:¬c=0:=by omega
  clear hn;go_wp2;go_ret
  exact .inl ⟨c,by unfold sQ;rw[aT.o.1],rfl,D.o.trans (aT.o.2.mono D.o.size)⟩
 ·have W:=aa E;clear E
  have X:=af (a:=(V n 0)) (v:=A t) y (by simp[go_sem]);have bx:=af (a:=(V n 1)) (v:=A w) y (by simp[go_sem]);have pZ:n.heap.size<w1.heap.size:=ao4 w1 _ X;have B:=aa (D.o.trans (y.mono D.o.size));clear y;have N:=aa ay;clear ay;have Y:=aa (aC.o.jY B.o);have qh:=aa (Ar Y.o.room b Y.o.hc 1 (by omega));go_wp2_with fail
  refine qh.o.mono ?_;rintro e F ⟨rfl,iz⟩;subst iz;by_cases I:z.length=0
  ·have ct:z=[]:=aqg I
   subst ct;obtain⟨bX,bQ,C,_,_,_⟩:=bp N.o;subst C;generalize decide ((i b).length+1<=60)=Po;clear I;go_wp2;go_ret
   exact .inl ⟨6,by unfold sQ;rw[W.o];rfl,rfl,B.o⟩
  ·have kp:=aa (show z≠[] from fun e=>I (by rw[e];rfl))
   by_cases aD:(i b).length<60
   ·have L:decide ((i b).length+1<=60)=true:=decide_eq_true (by omega)
    rw[L];clear L;obtain⟨bX,bQ,C,_,_,_⟩:=bp N.o;have dN:=aa C;subst C;have Co:J F F.drew:=(aoQ _ F).drew;have lW:=aa Co;clear Co;have Pn:=aa (show n.heap.size<=F.drew.heap.size from B.o.size);go_wp2;go_region_with (first
     |(go_at_call 146;refine(JR _ z _ ?au ?ab).mono ?_;(case au=>exact N.o.af lW.o);(case ab=>omega);rintro e w2 ⟨u,rfl,P,aU⟩;obtain⟨kB,kC,oU,_,_,_⟩:=bp P;rw[aoU]at oU;subst oU;have M:J F w2:=lW.o.trans aU;replace X:=af M X;replace bx:=af M bx;have gj:=aa (Y.o.jY M);have gi:=aa P.ids;have Fe:=aa (fun g hk=>aoS Pn.o (aoT P g hk).1);clear P;have bf:=aa (B.o.trans (M.mono B.o.size));clear aU M)
     |(go_at_call 145;refine(xw bf.o gj.o aD rfl (by omega) 0 0 4 t w 0 0 0 0 0 0 0 false x _ (z.map (·.cD)) gi.o Fe.o).mono ?_;rintro e w3 ⟨rfl,Q,R,U,AZ⟩;have uX:=aa AZ;clear AZ))
    all_goals(try go_wp2)
    all_goals go_ret
    all_goals exact .inr ⟨[xN 4 (bZ S+1) b (t,w) x 0 (0,0) (z.map (·.cD))],by unfold sQ;rw[W.o];simp only[I,aD,if_true,if_false],rfl,_,Q,R,U,rfl,uX.o⟩
   ·have L:decide ((i b).length+1<=60)=false:=decide_eq_false (by omega)
    rw[L];clear L;obtain⟨bX,bQ,C,_,_,_⟩:=bp N.o;subst C;go_wp2;go_ret
    exact .inl ⟨8,by unfold sQ;rw[W.o];simp only[I,aD,if_false],rfl,B.o⟩
theorem afs{S}(h:lz n f r m q s l i k j b S)(ab:bZ S<900000)(w x:Int)(z:ByteArray)(dO:z.size<=maxLen)(C:Bool):
  O 95 #[Z f,A b,.agg #[A w,A x],.string z,.bool C] n fun e w'=>
   (∃c,tT (S.foldl b0 c2) (bZ S) (i b).length b (w,x) z C=.error c/\e=.returned (.tuple #[.agg #[A 0,A 0],A c])/\J n w')\/
   (∃bE,tT (S.foldl b0 c2) (bZ S) (i b).length b (w,x) z C=.ok bE/\e=.returned (.tuple #[.agg #[A (bZ S+1),A b],A 0])/\∃g dU dV has',g.map bw.p=bE/\gx n w' f r m q s l i k j b S g dU dV has'):=by
 have P:=aa (((aoQ n.heap.size n).alloc (aoP _) (.cells #[A w,A x] 36)).alloc (by simp) (.cells #[A 0,A 0] 36));have kQ:=aa (Kj (h.toShown.af P.o) w x z dO);clear dO;have aC:=aa h;clear h;generalize kv:S.foldl b0 c2=mf;rw[kv]at kQ;clear kv;go_enter func95,ntmps95;go_wp2_with fail
 refine kQ.o.mono ?_;rintro e Q ⟨B,⟨c,hn,F,rfl⟩|⟨v,D,F,hl,rfl,ay⟩⟩
 ·have R:=aa (And.intro F B);clear F B
  have sx:¬c=0:=by omega
  clear hn;have fz:=af (a:=(H (n.heap.size+1))) (v:=A 0) R.o.2 (by simp[go_sem]);have eJ:=af (a:=(K (n.heap.size+1) 1)) (v:=A 0) R.o.2 (by simp[go_sem]);have kT:∀d,Q.frozen? (K (n.heap.size+1) d)=false:=fun d=>by rw[R.o.2.frozen (p:=(K (n.heap.size+1) d)) (by simp)];simp[go_sem]
  go_wp2;refine bodyPost_ret (v:=.tuple #[.agg #[A 0,A 0],A c]) (by simp[results,results95,go_sem,fz,eJ]) rfl ?_;exact .inl ⟨c,by unfold tT;rw[R.o.1],rfl,((P.o.trans (R.o.2.mono P.o.size)).setCell (by simp) _).setCell (by simp) _⟩
 ·have H1:=aa F;clear F
  have cr:=af (a:=(V n 0)) (v:=A w) B (by simp[go_sem]);have bx:=af (a:=(V n 1)) (v:=A x) B (by simp[go_sem]);have k5:=aa (show Q.heap[n.heap.size]?=some (.cells #[A w,A x] 36 (0,0)) by rw[B.block n.heap.size (by simp;omega)];exact mi (bL _ _));have Y:=aa (show Q.heap[n.heap.size+1]?=some (.cells #[A 0,A 0] 36 (0,0)) by rw[B.block (n.heap.size+1) (by simp)];exact(by simp :(n.alloc (.cells #[A w,A x] 36)).heap.size=n.heap.size+1)▸bL (n.alloc (.cells #[A w,A x] 36)) (.cells #[A 0,A 0] 36));have pZ:n.heap.size<Q.heap.size:=ao4 Q _ cr;have ax:=aa (P.o.trans (B.mono P.o.size));clear B;have nJ:=aa ay;clear ay;have I:=aa (aC.o.jY ax.o);have qh:=aa (Ar I.o.room b I.o.hc 2 (by omega));go_wp2_with fail
  refine qh.o.mono ?_;rintro e ml ⟨rfl,iz⟩;subst iz;by_cases aD:(i b).length<59
  ·have U:decide ((i b).length+2<=60)=true:=decide_eq_true (by omega)
   rw[U];clear U;obtain⟨bX,bQ,aH,_,_,_⟩:=bp nJ.o;have dN:=aa aH;subst aH;go_wp2_with fail
   refine(xw (aoQ _ _) I.o (by omega) rfl (by omega) 0 0 1 0 0 0 0 0 0 0 0 0 C ⟨#[]⟩ (.slice none 0 0) [] (EO _) (fun t hk=>by cases hk)).mono ?_;rintro e L ⟨rfl,vT,sF,vU,M⟩;have sN:=aa (M.typed I.o k5.o (by decide) (by decide) (by decide));have fc:=aa (M.typed I.o Y.o (by decide) (by decide) (by decide));have W:=(bh sN.o).1;have X:=(bh sN.o).2;have adD:=aM fc.o;have G7:=aa (show k1 L (.slice bX D.length bQ) D from M.row I.o nJ.o (by decide) (by decide) (by decide));have sy:=aa (show(sF b).length<60 by have :=M.len;simp at this;omega);have C5:=aa (show bZ (S++List.map bw.p [⟨⟨(bZ S+1,b),1,C,(0,0),⟨#[]⟩,(0,0),(0,0),0,(0,0),[]⟩,.slice none 0 0⟩])=bZ S+1 from GV _ _ rfl);have rO:=aa M;clear M cr bx;go_wp2;obtain⟨y,Lf⟩:∃y,y=L.alloc (.cells #[A (bZ S+1),A b] 36):=⟨_,rfl⟩;rw[<-Lf];have N:J L y:=by rw[Lf];exact(aoQ _ L).alloc (aoP _) _
   have Ff:=aa (show y.heap[L.heap.size]?=some (.cells #[A (bZ S+1),A b] 36 (0,0)) by rw[Lf];exact bL L _);have uY:=aa (rO.o.wr.jY N);replace G7:=aa (G7.o.af N);replace W:=af N W;replace X:=af N X;have c7:=(bh Ff.o).1;have bg:=(bh Ff.o).2;have bM:=aa N;clear N Lf;have lW:=aa (show J y y.drew from(aoQ _ y).drew);go_region_with (first
    |(go_at_call 146;refine(JR _ D _ ?au ?ab).mono ?_;(case au=>exact G7.o.af lW.o);(case ab=>omega);rintro e w3 ⟨u,rfl,hu,aU⟩;obtain⟨kB,kC,oU,_,_,_⟩:=bp hu;rw[aoU]at oU;subst oU;have E:J y w3:=lW.o.trans aU;replace W:=af E W;replace X:=af E X;replace c7:=af E c7;replace bg:=af E bg;have gj:=aa (uY.o.jY E);have gi:=aa hu.ids;have Fe:=aa (fun t hk=>(aoT hu t hk).1);clear hu;have bf:=aa E;clear aU E)
    |(go_at_call 145;refine(xw bf.o gj.o sy.o C5.o (by omega) 0 0 3 w x 0 0 0 0 0 (bZ S+1) b false z _ (D.map (·.cD)) gi.o Fe.o).mono ?_;rintro e w4 ⟨rfl,xO,we,xP,rP⟩;have A0:=aa rP;clear rP))
   all_goals(have eE:=aa (A0.o.typed uY.o Ff.o (by decide) (by decide) (by decide));have oV:=aa (A0.o.typed uY.o (bj fc.o bM.o) (by decide) (by decide) (by decide)))
   all_goals(have eO:=(bh eE.o).1;have fL:=(bh eE.o).2;have s0:=(bh oV.o).1;have s1:=(bh oV.o).2;have KM:=cS oV.o;clear W X c7 bg)
   all_goals go_wp2
   all_goals(refine bodyPost_ret (v:=.tuple #[.agg #[A (bZ S+1),A b],A 0]) (by simp[results,results95,go_sem,s0,s1]) rfl ?_)
   all_goals(have V8:=aM (bj fc.o bM.o))
   all_goals exact .inr ⟨[qe (bZ S+1) b C,xN 3 (bZ S+2) b (w,x) z 0 (bZ S+1,b) (D.map (·.cD))],by unfold tT;rw[H1.o];simp only[aD,if_true],rfl,
    [⟨qe (bZ S+1) b C,.slice none 0 0⟩,⟨xN 3 (bZ S+1+1) b (w,x) z 0 (bZ S+1,b) (D.map (·.cD)),.slice kB D.length kC⟩],xO,we,xP,by rw[<-E5 (bZ S)];rfl,
    VT aC.o ax.o rO.o bM.o A0.o oV.o (by omega) (fun e=>by cases e) (fun e=>by have F:y.heap.size<=_:=Fe.o _ e;omega) _ _⟩
  ·have U:decide ((i b).length+2<=60)=false:=decide_eq_false (by omega)
   rw[U];clear U;have fz:=(bh Y.o).1;have eJ:=(bh Y.o).2;have kT:=cS Y.o;go_wp2;refine bodyPost_ret (v:=.tuple #[.agg #[A 0,A 0],A 8]) (by simp[results,results95,go_sem,fz,eJ]) rfl ?_;exact .inl ⟨8,by unfold tT;rw[H1.o];simp only[aD,if_false],rfl,(ax.o.setCell (by simp) _).setCell (by simp) _⟩
theorem aft(x:lz n f r m q s l i k j b h)(ab:bZ h<900000)(B C w c:Int):
  O 98 #[Z f,A b,.agg #[A B,A C],A w,A c] n fun e w'=>
   (∃g,sR (h.foldl b0 c2) (bZ h) (i b).length b (B,C) w c=.error g/\e=.returned (.tuple #[.agg #[A 0,A 0],A g])/\J n w')\/
   (∃bE,sR (h.foldl b0 c2) (bZ h) (i b).length b (B,C) w c=.ok bE/\e=.returned (.tuple #[.agg #[A (bZ h+1),A b],A 0])/\∃z dU dV has',z.map bw.p=bE/\gx n w' f r m q s l i k j b h z dU dV has'):=by
 have X:=aa (((aoQ n.heap.size n).alloc (aoP _) (.cells #[A B,A C] 36)).alloc (by simp) (.cells #[A 0,A 0] 36));have nO:=aa (GK (x.toShown.af X.o) B C true);have aC:=aa x;clear x;generalize kv:h.foldl b0 c2=mf;rw[kv]at nO;clear kv;go_enter func98,ntmps98;go_wp2_with fail
 refine nO.o.mono ?_;rintro e w1 (⟨g,Y,hn,rfl,I⟩|⟨t,d,go,cap,os,Y,rfl,dT⟩)
 ·have aT:=aa (And.intro Y I);clear Y I
  have sx:¬g=0:=by omega
  clear hn;have fz:=af (a:=(H (n.heap.size+1))) (v:=A 0) aT.o.2 (by simp[go_sem]);have eJ:=af (a:=(K (n.heap.size+1) 1)) (v:=A 0) aT.o.2 (by simp[go_sem]);have kT:∀y,w1.frozen? (K (n.heap.size+1) y)=false:=fun y=>by rw[aT.o.2.frozen (p:=(K (n.heap.size+1) y)) (by simp)];simp[go_sem]
  go_wp2;refine bodyPost_ret (v:=.tuple #[.agg #[A 0,A 0],A g]) (by simp[results,results98,go_sem,fz,eJ]) rfl ?_;exact .inl ⟨g,by unfold sR iM;rw[aT.o.1],rfl,((X.o.trans (aT.o.2.mono X.o.size)).setCell (by simp) _).setCell (by simp) _⟩
 ·have H1:=aa Y;clear Y
  have I:=dT.below;have k5:=aa (show w1.heap[n.heap.size]?=some (.cells #[A B,A C] 36 (0,0)) by rw[I.block n.heap.size (by simp;omega)];exact mi (bL _ _));have tX:=aa (show w1.heap[n.heap.size+1]?=some (.cells #[A 0,A 0] 36 (0,0)) by rw[I.block (n.heap.size+1) (by simp)];exact(by simp :(n.alloc (.cells #[A B,A C] 36)).heap.size=n.heap.size+1)▸bL (n.alloc (.cells #[A B,A C] 36)) (.cells #[A 0,A 0] 36));have ax:=aa (X.o.trans (I.mono X.o.size));clear I;have hI:=aa dT;clear dT;have lO:=aa hI.o.gY;have lx:=aa hI.o.cell;have hle:=hI.o.len;have p4:=aa hle;clear hle;have k4:=aa hI.o.ss;have qI:=hI.o.lt;generalize os[t]=W at *;have kO:=aa (show iM mf (B,C)=.ok (jH W.ss) by
    unfold iM;rw[H1.o];have :=k4.o;cases E:mf[t]? with
    |none=>rw[E]at this;cases this
    |some o=>
     rw[E]at this;simp at this;simp only[E,dw];rw[this,Kp])
  have uN:=aa (JS _ go (t*4) _ W.ss _ lx.o lO.o (by have :=p4.o.1;omega));have iE:=aa (show(jH W.ss).length<=240 by
   have :=Gu W.ss W.ss.length;rw[apc (aoP _)]at this;have :=p4.o.1;omega)
  generalize jH W.ss=L at *;go_wp2_with fail
  refine uN.o.mono ?_;rintro e w2 ⟨u,rfl,hu,aU⟩;have M:=aa aU;clear aU;have gi:=aa hu.ids;clear hu;have gD:=aa (Ui u L w w2 gi.o);go_wp2_with fail
  refine gD.o.mono ?_;rintro e N ⟨P,⟨vJ,rfl⟩|⟨⟨Q,R⟩,js,rfl⟩⟩
  ·have S:=aa (ax.o.trans ((M.o.trans (P.mono M.o.size)).mono ax.o.size))
   have U:=aa (bj (bj tX.o M.o) P);have Hz:=aa vJ;clear vJ P;have D:=aa ((aoQ N.heap.size N).alloc (aoP _) (.cells #[A 0,A 0] 36));have F:=aa ((aC.o.jY S.o).jY D.o);have qh:=aa (Ar F.o.room b F.o.hc 2 (by omega));have Pp:=aM U.o;have fz:=(bh (bj U.o D.o)).1;have eJ:=(bh (bj U.o D.o)).2;have kT:=cS (bj U.o D.o);go_wp2_with fail
   refine qh.o.mono ?_;rintro e w4 ⟨rfl,gA⟩;have fw:=aa (S.o.trans (D.o.mono S.o.size));clear F qh;generalize A1:N.alloc (.cells #[A 0,A 0] 36)=hd at *;subst gA;clear A1;generalize decide ((i b).length+2<=60)=Po;go_wp2;refine bodyPost_ret (v:=.tuple #[.agg #[A 0,A 0],A 7]) (by simp[results,results98,go_sem,fz,eJ]) rfl ?_;exact .inl ⟨7,by unfold sR;rw[kO.o];simp only[Hz.o],rfl,(fw.o.setCell (by simp) _).setCell (by simp) _⟩
  ·have S:=aa (ax.o.trans ((M.o.trans (P.mono M.o.size)).mono ax.o.size))
   have Pq:=aa (bj (bj k5.o M.o) P);have U:=aa (bj (bj tX.o M.o) P);have uZ:=aa js;clear js P;have D:=aa ((aoQ N.heap.size N).alloc (aoP _) (.cells #[A Q,A R] 36));have fw:=aa (S.o.trans (D.o.mono S.o.size));have F:=aa ((aC.o.jY S.o).jY D.o);have qh:=aa (Ar F.o.room b F.o.hc 2 (by omega));have vX:=aa (bj Pq.o D.o);have oV:=aa (bj U.o D.o);have ns:=aa (bL N (.cells #[A Q,A R] 36));have Pp:=aM U.o;have afu:=aM ns.o;go_wp2_with fail
   refine qh.o.mono ?_;rintro e w4 ⟨rfl,gA⟩;generalize A1:N.alloc (.cells #[A Q,A R] 36)=hd at *;subst gA;clear A1;by_cases aD:(i b).length<59
   ·have E:decide ((i b).length+2<=60)=true:=decide_eq_true (by omega)
    rw[E];clear E;have bc:=(bh vX.o).1;have a6:=(bh vX.o).2;have y0:=(bh ns.o).1;have Pr:=(bh ns.o).2;go_wp2_with fail
    refine(xw (aoQ _ _) F.o (by omega) rfl (by omega) 0 0 2 B C 0 0 Q R 0 0 0 false ⟨#[]⟩ (.slice none 0 0) [] (EO _) (fun t hk=>by cases hk)).mono ?_;rintro e w5 ⟨rfl,vT,sF,vU,lB⟩;have xU:=aa (lB.typed F.o vX.o (by decide) (by decide) (by decide));have HA:=aa (lB.typed F.o oV.o (by decide) (by decide) (by decide));have sy:=aa (show(sF b).length<60 by have :=lB.len;simp at this;omega);have C5:=aa (show bZ (h++List.map bw.p [⟨tR (bZ h+1) b (B,C) (Q,R),.slice none 0 0⟩])=bZ h+1 from GV _ _ rfl);have rO:=aa lB;clear lB bc a6 y0 Pr;have xV:=aa ((aoQ w5.heap.size w5).alloc (aoP _) (.cells #[A (bZ h+1),A b] 36));have rQ:=aa (bL w5 (.cells #[A (bZ h+1),A b] 36));have Fg:=aa (bj xU.o xV.o);have Ps:=aa (bj HA.o xV.o);have om:=aa (rO.o.wr.jY xV.o);have bc:=(bh Fg.o).1;have a6:=(bh Fg.o).2;have c7:=(bh rQ.o).1;have bg:=(bh rQ.o).2;have afv:=aM HA.o;have afw:=aM xU.o;go_wp2_with fail
    refine(xw (aoQ _ _) om.o sy.o C5.o (by omega) 0 0 3 B C (bZ h+1) b 0 0 c 0 0 false ⟨#[]⟩ (.slice none 0 0) [] (EO _) (fun t hk=>by cases hk)).mono ?_;rintro e w7 ⟨rfl,xO,we,xP,rP⟩;have HB:=aa (rP.typed om.o rQ.o (by decide) (by decide) (by decide));have C6:=aa (rP.typed om.o Ps.o (by decide) (by decide) (by decide));have A0:=aa rP;clear rP bc a6 c7 bg;have eO:=(bh HB.o).1;have fL:=(bh HB.o).2;have s0:=(bh C6.o).1;have s1:=(bh C6.o).2;have KM:=cS C6.o;go_wp2;refine bodyPost_ret (v:=.tuple #[.agg #[A (bZ h+1),A b],A 0]) (by simp[results,results98,go_sem,s0,s1]) rfl ?_;exact .inr ⟨[tR (bZ h+1) b (B,C) (Q,R),sP 3 (bZ h+2) b (B,C) (bZ h+1,b) c (0,0) []],by unfold sR;rw[kO.o];simp only[uZ.o,aD,if_true],rfl,
     [⟨tR (bZ h+1) b (B,C) (Q,R),.slice none 0 0⟩,⟨sP 3 (bZ h+1+1) b (B,C) (bZ h+1,b) c (0,0) [],.slice none 0 0⟩],xO,we,xP,by rw[<-E5 (bZ h)];rfl,
     VT aC.o fw.o rO.o xV.o A0.o C6.o (by omega) (fun e=>by cases e) (fun e=>by cases e) _ _⟩
   ·have E:decide ((i b).length+2<=60)=false:=decide_eq_false (by omega)
    rw[E];clear E;have fz:=(bh oV.o).1;have eJ:=(bh oV.o).2;have kT:=cS oV.o;go_wp2;refine bodyPost_ret (v:=.tuple #[.agg #[A 0,A 0],A 8]) (by simp[results,results98,go_sem,fz,eJ]) rfl ?_;exact .inl ⟨8,by unfold sR;rw[kO.o];simp only[uZ.o,aD,if_false],rfl,(fw.o.setCell (by simp) _).setCell (by simp) _⟩
end Go.Proofs.YtnkpogjiiohapaaGreatDoor
