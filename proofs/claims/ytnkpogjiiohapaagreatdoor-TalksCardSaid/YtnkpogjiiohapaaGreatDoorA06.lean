/- Our own text. -/
import Derived.Deep.DeepCutAuto
import Derived.Test.YtnkpogjiiohapaaGreatDoorA05
import Derived.Test.YtnkpogjiiohapaaGreatDoorA01
set_option linter.unusedSimpArgs false
set_option linter.unusedVariables false
set_option maxRecDepth 1000000
set_option maxHeartbeats 3200000
namespace Go.Proofs.YtnkpogjiiohapaaGreatDoor
open Go.RowKit Tryz
variable {a d f:Nat}{b r:World}{e n q:Value}{j:Nat->List bw}{k:Nat->Nat->Nat}{l:Nat->Nat->Value}{m:Nat->Value}{s:List bu}
structure TZ (list:Bool) (ss M:List bD):Prop where
 perm:M.Perm ss
 same:list=true->M=ss
 sorted:list=false->Kl M
 keys:list=false->∀s∈ss,hA ⟨#[]⟩ s.key=true
 size:∀s∈ss,s.key.size<=1000
theorem acG{c:Obj}(a:Below ((b.alloc c).alloc (.cells #[A 0,A 0,.bool false,.slice none 0 0] 272)).drew.heap.size ((b.alloc c).alloc (.cells #[A 0,A 0,.bool false,.slice none 0 0] 272)).drew r):
  r.cell? (H (b.heap.size+1))=some (A 0)/\r.cell? (K (b.heap.size+1) 1)=some (A 0)/\r.cell? (K (b.heap.size+1) 2)=some (.bool false)/\r.cell? (K (b.heap.size+1) 3)=some (.slice none 0 0)/\(∀j,r.frozen? (K (b.heap.size+1) j)=false):=by
 refine⟨af a (by simp[go_sem]),af a (by simp[go_sem]),af a (by simp[go_sem]),af a (by simp[go_sem]),fun j=> ?_⟩;rw[a.frozen (p:=(K (b.heap.size+1) j)) (by simp)];show((b.alloc c).alloc (.cells #[A 0,A 0,.bool false,.slice none 0 0] 272)).frozen? (K (b.heap.size+1) j)=false;exact World.frozen?_alloc_at _ _ _ _ (by simp)
def N0 (w:World) (b c:Int) (d:Bool) (e:Value) (p:Value) (wc:World):Prop:=
 ∃a,p=Z a/\wc.cell? (H a)=some (A b)/\wc.cell? (K a 1)=some (A c)/\wc.cell? (K a 2)=some (.bool d)/\wc.cell? (K a 3)=some e/\J w wc
theorem acH{a c:Int}{d:Bool}(f:J r b):N0 r a c d e (Z b.heap.size) (b.alloc (.cells #[A a,A c,.bool d,e] 272)):=
 ⟨b.heap.size,rfl,by simp[go_sem],by simp[go_sem],by simp[go_sem],by simp[go_sem],f.alloc f.size _⟩
theorem acI{a c:Int}{d:Bool}(f:r.cell? (H (b.heap.size+1))=some (A 0))(g:r.cell? (K (b.heap.size+1) 1)=some (A 0))(h:r.cell? (K (b.heap.size+1) 2)=some (.bool false))(i:r.cell? (K (b.heap.size+1) 3)=some (.slice none 0 0))(j:J b r):N0 b a c d e (Z (b.heap.size+1)) ((((r.setCell (H (b.heap.size+1)) (A a)).setCell (K (b.heap.size+1) 1) (A c)).setCell (K (b.heap.size+1) 2) (.bool d)).setCell (K (b.heap.size+1) 3) e):=
 ⟨b.heap.size+1,rfl,by simp[go_sem,f],by simp[go_sem,g],by simp[go_sem,h],by simp[go_sem,i],(((j.setCell (by simp) _).setCell (by simp) _).setCell (by simp) _).setCell (by simp) _⟩
theorem acJ(B t d:Nat)(mH:Value)(c:List dA)(a:PId->ByteArray)(G:PId->Prop)(L:Nat)(TR:L<=4)(aF:t<100000)(fP:∀(x:PId) (W:World),G x->fq B t W d mH c->O 153 #[Z d,.agg #[A x.1,A x.2],A ((L:Int)+1)] W fun e N=>e=.returned (.string (a x))/\J W N)(x1 x2:Int)(f:Nat)(lv:f<c.length)(sl:cK (lo (x1,x2)) c=(f:Int))(M:List bD)(bA:TZ c[f].list c[f].ss M)(ah:∀s∈c[f].ss,∀x∈s.ad,et x.obj.1 x.obj.2 0 0=false->G x.obj)(hn:∀s∈c[f].ss,∀x∈s.ad,ka x.num)(hsz:(lS a c[f].list (M.map bD.p)).size<=1125899906842620)(w:World)(m:fq B t w d mH c):
  O 153 #[Z d,.agg #[A x1,A x2],A L] w fun e N=>e=.returned (.string (uC a c[f].list (M.map bD.p)))/\J w N:=by
 obtain⟨go,cap,cj,aH,Cn,c9,yB,dh,gv,nG,bo,iU⟩:=m.row lv;unfold maxLen at dh;subst aH;have P:=m.cell;have q:=xa.cells m.ae rfl f lv;obtain⟨q,a6,bd,bV⟩:=q;have cP:go<w.heap.size:=ao4 w _ q;have gP:=m.lt;have kl:=m.ae.2.1 c[f] (aoY _);obtain⟨bX,bQ,qK,k2,rn,sv⟩:=bp kl.1;unfold maxLen at rn;have amQ:=(m.ad c[f] (aoY _)).1;rw[qK]at bV kl;clear c9 bo iU gv nG Cn;have nJ:=aa m;clear m;have lO:=aa kl;clear kl;have Ny:=aa sv;clear sv;have HVS:=aa qK;clear qK;have yH:=aa fP;clear fP;have fi:=aa ah;clear ah;have e0:=aa hn;clear hn;have u:=aa bA;clear bA;have ko:=aa P;have hlen:M.length=c[f].ss.length:=u.o.perm.length_eq;have sy:=aa hlen;clear hlen;have HFD:=aa (fun W (ek:J w W)=>B8 B d _ c x1 x2 W (nJ.o.af ek).cell (nJ.o.af ek).ae);generalize cl:c[f].list=g at *;generalize T0:c[f].ss=b at *;have k4:=aa T0;generalize c[f].id.1=yI at *;generalize c[f].id.2=yJ at *;clear cl T0;go_enter func153,ntmps153;go_wp2;go_cut [7] (fun p wc=>N0 w yI yJ g (.slice bX b.length bQ) p wc)
 case first =>
  go_region_with (go_at_call 174;refine(HFD.o _ ?hw).mono ?_;(case hw=>first |exact((aoQ _ w).alloc (aoP _) _).drew|exact(((aoQ _ w).alloc (aoP _) _).alloc (by simp) _).drew);rintro e Q ⟨rfl,R⟩;have v:J w Q:=(by first |exact(((aoQ _ w).alloc (aoP _) _).drew).trans (R.mono (by simp))|exact((((aoQ _ w).alloc (aoP _) _).alloc (by simp) _).drew).trans (R.mono (by simp;omega)));replace P:=af v P;replace q:=af v q;replace a6:=af v a6;replace bd:=af v bd;replace bV:=af v bV;have abB:go<Q.heap.size:=ao4 Q _ q;have T1:d<Q.heap.size:=ao4 Q _ P;have ax:=aa v;clear v;try(obtain⟨y0,y1,y2,y3,mI⟩:=acG R);have a1:=aa R;clear R)
  all_goals(go_wp2_with fail;go_meet)
  all_goals first |exact acH ax.o|exact acI y0 y1 y2 y3 ax.o
 case rest=>
  obtain⟨aA,rfl,cr,bx,bT,gR,T2⟩:=hcut;have GF:=aa bT;have n9:=aa gR;have T3:=aa T2;clear cr bx bT gR T2;clear q a6 bd bV P;go_wp2;go_loopw [8,9,10] (fun s aX vK wr=>∃n:Nat,∃U:ByteArray,n<=b.length/\vK=A n/\s=.string (lS a g ((M.map bD.p).take n))/\aX=.string U/\Hq (U.size<=1000/\(g=false->U=Cr M n))/\J wc wr) (fun _ _ vK _=>b.length-(intOf vK).toNat)
  case atStart=>exact⟨0,_,aoR _,rfl,rfl,rfl,⟨by show 0<=1000;omega,fun _=>(TX M).symm⟩,aoQ _ _⟩
  case round=>
   obtain⟨n,U,hn,rfl,rfl,rfl,lT,X⟩:=hrel;have bT:=af X GF.o;have gR:=af X n9.o;have amR:aA<wr.heap.size:=ao4 wr _ bT;have hMl:(M.map bD.p).length=b.length:=by rw[aoU,sy.o]
   have bY:=NX a g (M.map bD.p) ((M.map bD.p).length-n) n (by omega);have Y:=aa (T3.o.trans (X.mono T3.o.size));have k:=aa X;clear X;by_cases aE:n<b.length
   ·obtain⟨gs,rfl⟩:=Ny.o n aE
    have vO:n<(M.map bD.p).length:=by omega
    have N1:n<M.length:=by rw[sy.o];exact aE
    have T4:=aa (lO.o.af Y.o);have T5:∀i (hi:i<b.length),b[i]=M[n]->∃F I,wr.cell? (K gs (i*4))=some (.string b[i].key)/\wr.cell? (K gs (i*4+3))=some (.slice F b[i].ad.length I)/\b[i].ad.length<=1000000000/\
      (∀W,J wr W->O 177 #[Z d,.slice F b[i].ad.length I,A L] W fun e N=>e=.returned (.string (kP a b[i].ad))/\J W N)/\
      (kP a b[i].ad).size<=1125899906842620/\b[i].key.size<=1000:=by
     intro i hi nI;obtain⟨dG,ee,ew,hU⟩:=hy.cells T4.o rfl i hi;have rB:=lO.o.2 b[i] (aoY _);obtain⟨F,I,jq,amS,amT,_⟩:=bp rB;rw[jq]at hU rB;have NC:=(acE a g (M.map bD.p) n vO).1;have N2:(M.map bD.p)[n].ad=b[i].ad:=by rw[apy,nI];rfl
     rw[N2]at NC;refine⟨F,I,dG,hU,?_,fun W ek=> ?_,by omega,u.o.size _ (aoY _)⟩
     ·have :=(nJ.o.ad _ (aoY lv)).2 b[i] (by rw[k4.o];exact aoY _);omega
     ·have mF:J w W:=Y.o.trans (ek.mono Y.o.size)
      exact acB B t d _ c a G L TR yH.o _ b[i].ad W (nJ.o.af mF) (rB.af mF) (fun x al=>fi.o b[i] (aoY _) x al) (fun x al=>e0.o b[i] (aoY _) x al) (by omega)
    have T6:=aa T5;clear T5;cases g
    ·have amU:=lT.o.1
     have acK:=aa (lT.o.2 rfl);have rE:=aa (abe B aA 0 (.slice (some (H gs)) b.length bQ) b U wr gR T4.o (fun s ad=>by have :=u.o.size s ad;unfold maxLen;omega) (by unfold maxLen;omega));go_wp2_with fail
     refine rE.o.mono ?_;rintro e w2 ⟨r,rfl,aI,ib,rfl⟩;rw[acK.o]at aI;obtain⟨i,hi,rfl,nI⟩:=acF u.o.perm (u.o.sorted rfl) (u.o.keys rfl) aE aI;obtain⟨F,I,dG,hU,Gz,l,hvz,y⟩:=T6.o i hi nI;have l:=aa l;have z:=aa nI;clear nI aI;have acL:gs<wr.heap.size:=ao4 wr _ dG;have C:=aa (show lS a false ((M.map bD.p).take (n+1))=mg a false (lS a false ((M.map bD.p).take n)) b[i].p by rw[Kk a false vO,apy,<-z.o]);generalize lS a false ((M.map bD.p).take n)=S at *;have T7:(S++comma).size=S.size+1:=jV _ _;have hSk:(S++b[i].key).size=S.size+b[i].key.size:=jV _ _;have acM:((S++comma)++b[i].key).size=S.size+1+b[i].key.size:=by rw[jV,T7]
     have GN:((S++b[i].key)++colon).size=S.size+b[i].key.size+1:=by rw[jV,hSk];rfl
     have amV:(((S++comma)++b[i].key)++colon).size=S.size+1+b[i].key.size+1:=by rw[jV,acM];rfl
     have bF:(⟨#[44]⟩:ByteArray)=comma:=rfl;have kb:(⟨#[58]⟩:ByteArray)=colon:=rfl;have kx:comma.size=1:=rfl;have fZ:colon.size=1:=rfl;by_cases D:b[i].ad.length=0
     ·go_wp2
      go_roundw
      case rel=>exact⟨n+1,_,by omega,by go_num,by rw[C.o];unfold mg;rw[if_pos (by exact D)],rfl,⟨y,fun _=>by rw[GM M N1,<-z.o]⟩,below_drewN k.o _⟩
      case measure=>simp[intOf];omega
     ·cases e3:S.toList.isEmpty
      ·go_wp2_with (go_at_call 177;go_must (refine(l.o _ ?hw).mono ?_;(case hw=>exact below_drewN (aoQ _ _) _);rintro e w3 ⟨rfl,j⟩;have E:=aa j;clear j))
       go_roundw
       case rel=>exact⟨n+1,_,by omega,by go_num,by rw[C.o];unfold mg;rw[if_neg (by exact D),e3];rfl,rfl,⟨y,fun _=>by rw[GM M N1,<-z.o]⟩,(below_drewN k.o _).trans (E.o.mono (by exact(below_drewN k.o _).size))⟩
       case measure=>simp[intOf];omega
      ·go_wp2_with (go_at_call 177;go_must (refine(l.o _ ?hw).mono ?_;(case hw=>exact below_drewN (aoQ _ _) _);rintro e w3 ⟨rfl,j⟩;have E:=aa j;clear j))
       go_roundw
       case rel=>exact⟨n+1,_,by omega,by go_num,by rw[C.o];unfold mg;rw[if_neg (by exact D),e3];rfl,rfl,⟨y,fun _=>by rw[GM M N1,<-z.o]⟩,(below_drewN k.o _).trans (E.o.mono (by exact(below_drewN k.o _).size))⟩
       case measure=>simp[intOf];omega
    ·have z:=aa (show b[n]=M[n] by have :=u.o.same rfl;subst this;rfl)
     obtain⟨F,I,dG,hU,Gz,l,hvz,y⟩:=T6.o n aE z.o;have l:=aa l;have acL:gs<wr.heap.size:=ao4 wr _ dG;have C:=aa (show lS a true ((M.map bD.p).take (n+1))=mg a true (lS a true ((M.map bD.p).take n)) b[n].p by rw[Kk a true vO,apy,<-z.o]);generalize lS a true ((M.map bD.p).take n)=S at *;have T7:(S++comma).size=S.size+1:=jV _ _;have bF:(⟨#[44]⟩:ByteArray)=comma:=rfl;have kb:(⟨#[58]⟩:ByteArray)=colon:=rfl;have kx:comma.size=1:=rfl;have fZ:colon.size=1:=rfl;by_cases D:b[n].ad.length=0
     ·go_wp2
      go_roundw
      case rel=>exact⟨n+1,_,by omega,by go_num,by rw[C.o];unfold mg;rw[if_pos (by exact D)],rfl,⟨y,fun h=>by cases h⟩,k.o⟩
      case measure=>simp[intOf];omega
     ·cases e3:S.toList.isEmpty
      ·go_wp2_with (go_at_call 177;go_must (refine(l.o _ ?hw).mono ?_;(case hw=>exact aoQ _ _);rintro e w3 ⟨rfl,j⟩;have E:=aa j;clear j))
       go_roundw
       case rel=>exact⟨n+1,_,by omega,by go_num,by rw[C.o];unfold mg;rw[if_neg (by exact D),e3];rfl,rfl,⟨y,fun h=>by cases h⟩,(k.o).trans (E.o.mono (by exact(k.o).size))⟩
       case measure=>simp[intOf];omega
      ·go_wp2_with (go_at_call 177;go_must (refine(l.o _ ?hw).mono ?_;(case hw=>exact aoQ _ _);rintro e w3 ⟨rfl,j⟩;have E:=aa j;clear j))
       go_roundw
       case rel=>exact⟨n+1,_,by omega,by go_num,by rw[C.o];unfold mg;rw[if_neg (by exact D),e3];rfl,rfl,⟨y,fun h=>by cases h⟩,(k.o).trans (E.o.mono (by exact(k.o).size))⟩
       case measure=>simp[intOf];omega
   ·have hML:(M.map bD.p).take n=M.map bD.p:=apc (by omega)
    rw[hML];have amW:=hsz;have Kn:=aa (show ∀S,S=lS a g (M.map bD.p)->uC a g (M.map bD.p)=if g then((⟨#[91]⟩:ByteArray)++S)++⟨#[93]⟩ else((⟨#[123]⟩:ByteArray)++S)++⟨#[125]⟩ from fun S e=>by rw[e];rfl);have Kn:=aa (Kn.o _ rfl);generalize lS a g (M.map bD.p)=S at *;have Cw:((⟨#[91]⟩:ByteArray)++S).size=1+S.size:=jV _ _;have hS2:((⟨#[123]⟩:ByteArray)++S).size=1+S.size:=jV _ _;cases g
    ·go_wp2
     go_ret
     exact⟨Au Kn.o.symm,Y.o⟩
    ·go_wp2
     go_ret
     exact⟨Au Kn.o.symm,Y.o⟩
theorem T8:∀(a b:List UInt8),Op.bytesLess a b=false->Op.bytesLess b a=false->a=b
 |[],[],_,_=>rfl
 |[],_::_,h,_=>by simp[Op.bytesLess]at h
 |_::_,[],_,h=>by simp[Op.bytesLess]at h
 |x::a,y::b,c,d=>by
  simp[Op.bytesLess,UInt8.lt_iff_toNat_lt,UInt8.le_iff_toNat_le]at c d;have e:x=y:=UInt8.toNat_inj.1 (by omega);subst e;rw[T8 a b (c.2 rfl) (d.2 rfl)]
theorem T9{a b:ByteArray}(c:hA a b=false)(d:hA b a=false):a=b:=by
 apply aqG;apply Array.toList_inj.1;exact T8 _ _ c d
def EI (a b:bU):Bool:= !hA b.key a.key
def pk (l:List bU):List bU:=l.mergeSort EI
def xq (a b:bD):Bool:= !hA b.key a.key
def Av (l:List bD):List bD:=l.mergeSort xq
theorem acN(l:List bD):(Av l).map bD.p=pk (l.map bD.p):=by
 unfold Av pk;exact List.map_mergeSort (fun a _ b _=>rfl)
theorem Ua(l:List bD):(Av l).Perm l:=aqy _ _
theorem Ub(a b c:bD)(g:xq a b=true)(d:xq b c=true):xq a c=true:=by
 unfold xq at *;simp at *;cases h:hA c.key a.key
 ·rfl
 ·cases f:hA a.key b.key
  ·have e:=T9 f g
   rw[e]at h;rw[d]at h;cases h
  ·have :=NZ h f
   rw[d]at this;cases this
theorem Uc(a b:bD):(xq a b||xq b a)=true:=by
 unfold xq;cases h:hA b.key a.key
 ·simp
 ·cases c:hA a.key b.key
  ·simp
  ·have :=NZ h c
   rw[NY]at this;cases this
theorem acO(l:List bD)(c:l.Pairwise fun a b=>a.key≠b.key):Kl (Av l):=by
 unfold Kl;have d:(Av l).Pairwise fun a b=>xq a b=true:=ars Ub Uc l
 have e:(Av l).Pairwise fun a b=>a.key≠b.key:=(List.Perm.pairwise_iff (fun{a b} h=>ao5 h) (Ua l)).2 c
 refine(d.and e).imp fun{a b} ⟨h,f⟩=> ?_
 unfold xq at h;simp at h;cases g:hA a.key b.key
 ·exact absurd (T9 g h) f
 ·rfl
def ie (o:ba):List bU:=if o.list then o.ss else pk o.ss
def oG (D:List ba):Nat->PId->ByteArray
 |0,_=>⟨#[35]⟩
 |r+1,x=>match D.find? (iL x) with
  |some o=>uC (oG D r) o.list (ie o)
  |none=>⟨#[]⟩
structure Ko (D:List ba):Prop where
 keys:∀o∈D,o.list=false->(o.ss.Pairwise fun a b=>a.key≠b.key)/\∀s∈o.ss,s.key≠⟨#[]⟩
 acP:∀o∈D,∀s∈o.ss,s.key.size<=1000
 nums:∀o∈D,∀s∈o.ss,∀h∈s.ad,ka h.num
 sz:∀o∈D,∀s∈o.ss,∀h∈s.ad,h.obj=(0,0)\/∃o'∈D,o'.id=h.obj
 size:∀r,r<=4->∀o∈D,(lS (oG D r) o.list (ie o)).size<=1125899906842620
theorem acQ{k:ByteArray}(h:k≠⟨#[]⟩):hA ⟨#[]⟩ k=true:=by
 unfold hA;show Op.bytesLess [] k.data.toList=true;cases b:k.data.toList with
 |nil=>exact absurd (by apply aqG;apply Array.toList_inj.1;rw[b]) h
 |cons a l=>rfl
theorem acR{D:List ba}{x:PId}{k:Nat}(h:cK (iL x) D=(k:Int)):∃a:k<D.length,D.find? (iL x)=some D[k]:=by
 unfold cK at h;split at h
 ·rename_i i b
  have e:i=k:=by omega
  subst e;obtain⟨a,c,d⟩:=aqc.1 b;refine⟨a,?_⟩;rw[aqF];exact⟨c,i,a,rfl,fun j f=>by simpa using d j f⟩
 ·omega
theorem acS(d:Nat)(a b:Int)(w:World):
  O 153 #[Z d,.agg #[A a,A b],A 5] w fun e c=>e=.returned (.string ⟨#[35]⟩)/\J w c:=by
 go_enter func153,ntmps153;go_wp2;go_ret
 exact⟨rfl,(aoQ _ _).alloc (aoP _) _⟩
theorem acT{b:List dA}{x:PId}(h:∃o∈b.map dA.p,o.id=x):∃k,∃_:k<b.length,cK (lo x) b=(k:Int):=by
 obtain⟨o,g,e⟩:=h;have l:=yz (lo x) b;have m:=Cc (lo x) b;by_cases n:cK (lo x) b<0
 ·exfalso
  have d:cK (lo x) b= -1:=by omega
  unfold cK at d;split at d
  ·omega
  ·rename_i f
   rw[aqX]at f;obtain⟨c,i,rfl⟩:=aoX.1 g;have :=f c i;unfold lo at this;rw[yx]at this;exact this (by have :c.id=x:=e;rw[this])
 ·obtain⟨k,j⟩:=aqe (a:=cK (lo x) b) (by omega)
  exact⟨k,by omega,j⟩
theorem acU{o:dA}(c:o.list=false->(o.ss.Pairwise fun a b=>a.key≠b.key)/\∀s∈o.ss,s.key≠⟨#[]⟩)(d:∀s∈o.ss,s.key.size<=1000):
  TZ o.list o.ss (if o.list then o.ss else Av o.ss):=by
 cases h:o.list
 ·rw[h]at c
  exact⟨Ua _,fun h=>(by cases h),fun _=>acO _ (c rfl).1,fun _ s e=>acQ ((c rfl).2 s e),d⟩
 ·exact⟨List.Perm.refl _,fun _=>rfl,fun h=>(by cases h),fun h=>(by cases h),d⟩
theorem acV(B t d:Nat)(n:Value)(c:List dA)(F:t<100000)(i:Ko (c.map dA.p)):
  ∀(r:Nat),r<=4->∀(x:PId) (w:World),(∃o∈c.map dA.p,o.id=x)->fq B t w d n c->
   O 153 #[Z d,.agg #[A x.1,A x.2],A ((5-r:Nat):Int)] w fun e q=>e=.returned (.string (oG (c.map dA.p) r x))/\J w q:=by
 intro r
 induction r with
 |zero=>intro _ x w _ _;exact acS d x.1 x.2 w
 |succ r ih=>
  intro Y x w I L;obtain⟨f,M,u⟩:=acT I;have j:c[f].p∈c.map dA.p:=aqO (aoY _);have l:∀s∈c[f].ss,s.p∈c[f].p.ss:=fun s g=>aqO g
  have N:=acU (o:=c[f])
   (fun v=>⟨by
    have :=(i.keys _ j v).1;have z:(c[f].ss.map bD.p).Pairwise fun a b=>a.key≠b.key:=this
    rw[apB]at z;exact z,fun s g=>(i.keys _ j v).2 s.p (l s g)⟩)
   (fun s g=>i.acP _ j s.p (l s g))
  have C:(if c[f].list then c[f].ss else Av c[f].ss).map bD.p=ie c[f].p:=by
   unfold ie;show _=if c[f].list then c[f].ss.map bD.p else pk (c[f].ss.map bD.p)
   split
   ·rfl
   ·exact acN _
  have P:(c.map dA.p).find? (iL x)=some c[f].p:=by
   obtain⟨cM,h⟩:=acR (D:=c.map dA.p) (x:=x) (k:=f) (by rw[J6];exact u);rw[h,apy]
  have Q:=acJ B t d n c (oG (c.map dA.p) r) (fun y=>∃o∈c.map dA.p,o.id=y) (5-(r+1)) (by omega) F
   (fun y W R S=>by
    have :=ih (by omega) y W R S;rw[show((5-r:Nat):Int)=((5-(r+1):Nat):Int)+1 by omega]at this;exact this)
   x.1 x.2 f M u _ N
   (fun s g h m E=>by
    rcases i.sz _ j s.p (l s g) h m with e|e
    ·rw[e]at E;simp[et]at E
    ·exact e)
   (fun s g h m=>i.nums _ j s.p (l s g) h m)
   (by rw[C];exact i.size r (by omega) _ j)
   w L
  refine Q.mono fun e q ⟨U,X⟩=>⟨?_,X⟩
  rw[U,C];unfold oG;rw[P];rfl
theorem Ud(p:bu)(o:ba):(e9 p o).id=o.id:=by
 unfold e9;split <;>split <;>rfl
theorem Ue{D:List ba}{f:ba->ba}(a:∀o,(f o).id=o.id)(k:Nat):(D.modify k f).map ba.id=D.map ba.id:=by
 apply ap6;intro j;rw[ap7,ap7,arc];cases D[j]? with
 |none=>simp
 |some o=>by_cases e:k=j<;>simp[e,a]
theorem acX(D:List ba)(p:bu):∃l,(b0 D p).map ba.id=D.map ba.id++l:=by
 unfold b0;split
 ·exact⟨[p.id],by simp⟩
 ·split
  ·exact⟨[],by simp⟩
  ·exact⟨[],by rw[Ue (Ud p)];simp⟩
theorem acY(S:List bu):∀D:List ba,(∃o∈D,o.id=(0,0))->∃o∈S.foldl b0 D,o.id=(0,0):=by
 induction S with
 |nil=>intro D h;exact h
 |cons p S ih=>
  intro D ⟨o,a,e⟩;refine ih _ ?_;obtain⟨l,b⟩:=acX D p;have :(0,0)∈(b0 D p).map ba.id:=by rw[b];exact apR _ (aoX.2 ⟨o,a,e⟩)
  obtain⟨c,d,f⟩:=aoX.1 this;exact⟨c,d,f⟩
def dw (o:ba):List PId:=(o.ss.filter fun s=>decide (0<s.ad.length)).map bU.id
theorem Kp(l:List bD):jH l=((l.map bD.p).filter fun s=>decide (0<s.ad.length)).map bU.id:=by
 unfold jH;rw[List.filter_map,apI];rfl
def iM (D:List ba) (x:PId):Except Int (List PId):=
 match oF D x true with
 |.error n=>.error n
 |.ok k=>.ok (match D[k]? with |some o=>dw o|none=>[])
theorem acZ(h:Shown b a f e n q m j l k d s)(w x:Int):
  O 104 #[Z a,A d,.agg #[A w,A x]] b fun g D=>
   J b D/\((∃c,(c=3\/c=4)/\iM (s.foldl b0 c2) (w,x)=.error c/\g=.returned (.tuple #[.slice none 0 0,A c]))\/
   (∃v i,iM (s.foldl b0 c2) (w,x)=.ok i/\i.length<=240/\g=.returned (.tuple #[v,A 0])/\gu b.heap.size D v i)):=by
 have U:=aa h;clear h;generalize E:s.foldl b0 c2=F;have W:=aa E;clear E;go_enter func104,ntmps104;go_wp2_with fail
 refine(GK (U.o.af ((aoQ _ b).alloc (aoP _) _)) w x true).mono ?_;rw[W.o];have y:=aa ((aoQ b.heap.size b).alloc (aoP _) (.cells #[A w,A x] 36));rintro g w1 (⟨c,z,I,rfl,L⟩|⟨p,r,X,cap,Y,z,rfl,M⟩)
 ·have N:=aa (And.intro z L);clear z L
  have e0:=aa I;have sx:¬c=0:=by omega
  clear I;go_wp2;go_ret2
  exact⟨y.o.trans (N.o.2.mono y.o.size),.inl ⟨c,e0.o,by unfold iM;rw[N.o.1],rfl⟩⟩
 ·have H1:=aa z;clear z
  have t:=aa M;clear M;have lO:=aa t.o.gY;have lx:=aa t.o.cell;have P:=t.o.len;have Q:=aa P;clear P;have k4:=aa t.o.ss;have qI:=t.o.lt;generalize Y[p]=B at *;have kO:=aa (show iM F (w,x)=.ok (jH B.ss) by
    unfold iM;rw[H1.o];have :=k4.o;cases C:F[p]? with
    |none=>rw[C]at this;cases this
    |some o=>
     rw[C]at this;simp at this;simp only[C,dw];rw[this,Kp])
  go_wp2_with fail
  refine(JS _ X (p*4) _ B.ss _ lx.o lO.o (by have :=Q.o.1;omega)).mono ?_;rintro g w2 ⟨u,rfl,R,S⟩;have gi:=aa R;clear R;have bf:=aa S;clear S;go_wp2;go_ret2
  refine⟨y.o.trans ((t.o.below.trans (bf.o.mono t.o.below.size)).mono y.o.size),.inr ⟨u,_,kO.o,?_,rfl,gC gi.o ?_⟩⟩
  ·have :=Gu B.ss B.ss.length
   rw[apc (aoP _)]at this;have :=Q.o.1;omega
  ·have :=t.o.below.size;have :=y.o.size;omega
theorem ac0(h:e2 b a d e n q m j l k)(c g i:Int)(r:¬(0<=c/\c<d)):
  O 104 #[Z a,A c,.agg #[A g,A i]] b fun f t=>
   f=.returned (.tuple #[.slice none 0 0,A 2])/\J b t:=by
 have u:=aa h;clear h;have v:=aa r;clear r;have p:=aa ((aoQ b.heap.size b).alloc (aoP _) (.cells #[A g,A i] 36));go_enter func104,ntmps104;go_wp2_with fail
 refine(GJ (u.o.af p.o) c g i true v.o).mono ?_;rintro f x ⟨rfl,s⟩;have w:=aa s;clear s;go_wp2;go_ret2
 exact⟨rfl,p.o.trans (w.o.mono p.o.size)⟩
theorem Kq(h:e2 b a d e n q m j l k)(c g i:Int)(t:ByteArray)(r:¬(0<=c/\c<d)):
  O 143 #[Z a,A c,.agg #[A g,A i],.string t] b fun f u=>
   f=.returned (.tuple #[.slice none 0 0,A 2])/\J b u:=by
 have v:=aa h;clear h;have w:=aa r;clear r;have p:=aa ((aoQ b.heap.size b).alloc (aoP _) (.cells #[A g,A i] 36));go_enter func143,ntmps143;go_wp2_with fail
 refine(GJ (v.o.af p.o) c g i false w.o).mono ?_;rintro f y ⟨rfl,s⟩;have x:=aa s;clear s;go_wp2;go_ret2
 exact⟨rfl,p.o.trans (x.o.mono p.o.size)⟩
theorem ac1(h:e2 b a d e n q m j l k)(c:Int)(g:¬(0<=c/\c<d)):
  O 103 #[Z a,A c] b fun f p=>f=.returned (.tuple #[.string ⟨#[]⟩,A 2])/\J b p:=by
 have r:=aa h;clear h;have s:=aa (decide_eq_false g);clear g;go_enter func103,ntmps103;go_wp2_with fail
 refine(xo r.o c).mono ?_;rintro f u ⟨i,t⟩;rw[s.o]at i;subst i;subst t;go_wp2;go_ret2
 exact⟨rfl,aoQ _ _⟩
theorem ac2(h:Shown b d f e n q m j l k a s)(p:Ko (s.foldl b0 c2)):
  O 103 #[Z d,A a] b fun c C=>c=.returned (.tuple #[.string (oG (s.foldl b0 c2) 4 (0,0)),A 0])/\J b C:=by
 have D:=aa (decide_eq_true (show 0<=(a:Int)/\(a:Int)<f by have :=h.hc;omega));have r:=aa h;clear h;have E:=aa p;clear p;have F:=aa (acY s c2 ⟨_,ao2.2 rfl,rfl⟩);generalize t:oG (s.foldl b0 c2) 4 (0,0)=S;have I:=aa t;clear t;go_enter func103,ntmps103;go_wp2_with fail
 refine(xo r.o.room a).mono ?_;rintro c u ⟨v,L⟩;rw[D.o]at v;subst v;subst L;go_wp2_with fail
 refine(TH r.o).mono ?_;rintro c u ⟨g,M,N,rfl,w,x,y⟩;have P:=aa w;clear w;have z:=aa y;clear y;have i:=aa x;clear x;have Q:=aa (acV _ 240 g M N (by omega) (by rw[i.o];exact E.o) 4 (by omega) (0,0) u (by rw[i.o];exact F.o) P.o);go_wp2_with fail
 refine Q.o.mono ?_;rintro c U ⟨rfl,B⟩;have R:=aa B;clear B;rw[i.o,I.o];go_wp2;go_ret2
 exact⟨rfl,z.o.trans (R.o.mono z.o.size)⟩
abbrev dR:=Int×PId
def nK (x:dR):List Value:=[A x.1,A x.2.1,A x.2.2]
def valOf (h:cE):dR:=(h.num,h.obj)
def nL (B:Nat) (w:World) (v:Value) (l:List dR):Prop:=w.ownsRow B 57 3 v l.length (l.flatMap nK)
theorem nL.alloc{B w v l}(h:nL B w v l)(o:Obj):nL B (w.alloc o) v l:=aqd h o
theorem nL.below{l}{c:World}(h:nL a b e l)(d:Below a r b)(f:a<=b.heap.size)(g:b.grownBy c e.ownBlock):Below a r c:=
 d.grown g f fun k i=>(aoT h k i).1
theorem ac3{x:dR}:∀u∈nK x,u.oneCell'=true:=by
 intro u a;simp[nK]at a;rcases a with rfl|rfl|rfl<;>rfl
theorem Ug{x:dR}(d:b.cell? (H a)=some (A x.1))(e:b.cell? (K a 1)=some (A x.2.1))(f:b.cell? (K a 2)=some (A x.2.2)):
  ∀j u,(nK x)[j]?=some u->b.cell? (K a j)=some u:=by
 intro j u c
 match j with
 |0=>simp[nK]at c;rw[<-c];exact d
 |1=>simp[nK]at c;rw[<-c];exact e
 |2=>simp[nK]at c;rw[<-c];exact f
 |j+3=>simp[nK]at c
theorem Uh{f:Array Oper}{rest:List Oper}{o:Oper}{a:Act}{Q:Exit->Act->World->Prop}(i:o.guard=none)(s x:Operand)(k:o.op=.call {callee:=.builtin .append,args:= #[s,x],argTypes:= #[53,53]})(B:Nat)(v:Value)(l:List dR)(m:a.eval s=v)(n:nL B b v l)(g c:Nat)(y:dR)(p:a.eval x=.slice (some (H g)) 1 c)(q:∀j u,(nK y)[j]?=some u->b.cell? (K g j)=some u)(z:l.length<1000000000)(r:B<=b.heap.size)(h:∀e d,nL B d e (l++[y])->b.grownBy d v.ownBlock->wpList prog f Q rest (a.put o.dst e) d):wpList prog f Q (o::rest) a b:=
 JO nK 3 24 53 57 (.agg #[A 0,A 0,A 0]) (by kernel_rfl) underlying53 rfl (by omega) (fun _=>rfl) i s x k B v l m n g c y p
  q ac3 (by omega) (by unfold maxLen;omega) r (fun e d t w=>h e d (by unfold nL;simpa using t) w)
def uD (D:List ba) (x:PId) (a:ByteArray):Except Int (List dR):=
 match lQ D x a with
 |.error n=>.error n
 |.ok b=>.ok (b.map valOf)
theorem ac4(h:Shown b a f e n q m j l k d s)(z B:Int)(C:ByteArray)(P:C.size<=maxLen):
  O 107 #[Z a,A d,.agg #[A z,A B],.string C] b fun r Q=>
   J b Q/\((∃p,(p=3\/p=4\/p=5)/\uD (s.foldl b0 c2) (z,B) C=.error p/\r=.returned (.tuple #[.slice none 0 0,A p]))\/
   (∃v t,uD (s.foldl b0 c2) (z,B) C=.ok t/\t.length<=240/\r=.returned (.tuple #[v,A 0])/\nL b.heap.size Q v t)):=by
 have aC:=aa h;clear h;have D:=aa ((aoQ b.heap.size b).alloc (aoP _) (.cells #[A z,A B] 36));have R:=aa (Kj (aC.o.af D.o) z B C P);clear P;generalize S:s.foldl b0 c2=mf;rw[S]at R;clear S;go_enter func107,ntmps107;go_wp2_with fail
 refine R.o.mono ?_;rintro r I ⟨E,⟨p,U,h1,rfl⟩|⟨v,y,h1,hl,rfl,L⟩⟩
 ·have W:=aa (And.intro h1 E);clear h1 E
  have M:=aa U;have sx:¬p=0:=by omega
  clear U;go_wp2;go_ret2
  exact⟨D.o.trans (W.o.2.mono D.o.size),.inl ⟨p,M.o,by unfold uD;rw[W.o.1],rfl⟩⟩
 ·have H1:=aa h1;clear h1
  have X:=aa (D.o.trans (E.mono D.o.size));clear E;obtain⟨w,cap,rfl,jk,dh,Y⟩:=bp L;unfold maxLen at dh;have du:=aa Y;clear Y;have nJ:=aa L;clear L;have bJ:=X.o.size;go_wp2;go_loopw [12,13] (fun u i wr=>∃c:Nat,c<=y.length/\i=A c/\nL I.heap.size wr u ((y.take c).map valOf)/\J I wr) (fun _ i _=>y.length-(intOf i).toNat)
  case atStart=>exact⟨0,aoR _,rfl,ao9 _ _ _ _,aoQ _ _⟩
  case round=>
   obtain⟨c,hk,rfl,F,x⟩:=hrel;by_cases N:c<y.length
   ·obtain⟨g,rfl⟩:=du.o c N
    obtain⟨d0,d1,d2,d3,d4⟩:=k1.cells nJ.o rfl c N;replace d2:=af x d2;replace d3:=af x d3;replace d4:=af x d4;clear d0 d1;have cL:=aa F;clear F;go_wp2_with (at_builtin;go_must (refine Uh rfl (.tmp 31) (.tmp 37) rfl I.heap.size _ ((y.take c).map valOf) rfl ?h1 wr.heap.size 1 (valOf y[c]) rfl ?h2 ?aL ?bW ?_;(case h1=>exact cL.o.alloc _);(case h2=>exact Ug (by simp[go_sem,valOf]) (by simp[go_sem,valOf]) (by simp[go_sem,valOf]));(case aL=>simp;omega);(case bW=>have :=x.size;simp;omega);intro v' w2 fv e1;have fi:=aa e1;clear e1;have M:=aa fv;clear fv))
    go_roundw
    case rel=>exact⟨c+1,by omega,by go_num,by rw[El _ N];exact M.o,nL.below (cL.o.alloc _) (x.alloc x.size _) (by have :=x.size;simp;omega) fi.o⟩
    case measure=>simp[intOf];omega
   ·go_wp2
    go_ret2
    rw[apc (by omega)]at F;exact⟨X.o.trans (x.mono bJ),.inr ⟨_,_,by unfold uD;rw[H1.o],by simpa using hl,rfl,gC F bJ⟩⟩
theorem ac5(h:e2 b a d e n q m j l k)(c g i:Int)(r:ByteArray)(s:¬(0<=c/\c<d)):
  O 107 #[Z a,A c,.agg #[A g,A i],.string r] b fun f u=>
   f=.returned (.tuple #[.slice none 0 0,A 2])/\J b u:=by
 have p:=aa ((aoQ b.heap.size b).alloc (aoP _) (.cells #[A g,A i] 36));have v:=aa (Kq (h.af p.o) c g i r s);clear h s;go_enter func107,ntmps107;go_wp2_with fail
 refine v.o.mono ?_;rintro f x ⟨rfl,t⟩;have w:=aa t;clear t;go_wp2;go_ret2
 exact⟨rfl,p.o.trans (w.o.mono p.o.size)⟩
def jL (l:List PId) (i:Int):Option PId:=if i<0\/i>l.length then none else if i=0 then some (0,0) else l[(i-1).toNat]?
theorem Ui(v:Value)(l:List PId)(i:Int)(w:World)(h:er w v l):
  O 148 #[v,A i] w fun e n=>J w n/\
   ((jL l i=none/\e=.returned (.tuple #[.agg #[A 0,A 0],.bool false]))\/∃x,jL l i=some x/\e=.returned (.tuple #[.agg #[A x.1,A x.2],.bool true])):=by
 obtain⟨a,r,rfl,s,p,c⟩:=bp h;unfold maxLen at p;by_cases j:i<0
 ·have b:=aa (show jL l i=none by unfold jL;rw[if_pos (.inl j)])
  clear h c;go_enter func148,ntmps148;go_wp2;exact bodyPost_ret (v:=.tuple #[.agg #[A 0,A 0],.bool false]) (by simp[results,results148,go_sem]) rfl ⟨(aoQ _ _).alloc (aoP _) _,.inl ⟨b.o,rfl⟩⟩
 ·by_cases m:(l.length:Int)<i
  ·have b:=aa (show jL l i=none by unfold jL;rw[if_pos (.inr m)])
   clear h c;go_enter func148,ntmps148;go_wp2;exact bodyPost_ret (v:=.tuple #[.agg #[A 0,A 0],.bool false]) (by simp[results,results148,go_sem]) rfl ⟨(aoQ _ _).alloc (aoP _) _,.inl ⟨b.o,rfl⟩⟩
  ·by_cases d:i=0
   ·have b:=aa (show jL l i=some (0,0) by unfold jL;rw[if_neg (by omega),if_pos d])
    subst d;clear h c j m;go_enter func148,ntmps148;go_wp2;exact bodyPost_ret (v:=.tuple #[.agg #[A 0,A 0],.bool true]) (by simp[results,results148,go_sem]) rfl ⟨(aoQ _ _).alloc (aoP _) _,.inr ⟨(0,0),b.o,rfl⟩⟩
   ·obtain⟨k,rfl⟩:∃k:Nat,i=(k:Int)+1:=⟨(i-1).toNat,by omega⟩
    have f:k<l.length:=by omega
    obtain⟨g,rfl⟩:=c k f;obtain⟨q,t⟩:=er.cells h rfl k f;have u:g<w.heap.size:=ao4 w _ q;have b:=aa (show jL l ((k:Int)+1)=some l[k] by unfold jL;rw[if_neg (by omega),if_neg (by omega)];simp[f]);clear h c d;go_enter func148,ntmps148;go_wp2;exact bodyPost_ret (v:=.tuple #[.agg #[A l[k].1,A l[k].2],.bool true]) (by simp[results,results148,go_sem]) rfl ⟨by go_grown,.inr ⟨l[k].1,l[k].2,b.o,rfl⟩⟩
theorem hV(w:World)(o:Obj){r:Nat}(h:r<w.heap.size):(w.alloc o).heap[r]?=w.heap[r]?:= @heap_alloc_old w o r h
def oH (x:dR):Value:=.agg #[A x.1,A x.2.1,A x.2.2]
def iN (w:World) (v:Option Nat) (a:List (PId×dR)):Prop:=(v=none/\a=[])\/∃b c d,v=some b/\isMap cX oH w b a c d
structure qL where
 v:Option Nat
 aB:List (PId×dR)
def sA (k:qL):Value:=.map k.v
def rF (w:World) (v:Option Nat) (a:List (ByteArray×qL)):Prop:=((v=none/\a=[])\/∃b c d,v=some b/\isMap mE sA w b a c d)/\∀p∈a,iN w p.2.v p.2.aB
structure eI where
 list:Bool
 fE:Option Nat
 ks:List (ByteArray×qL)
 first :PId
variable {i:List (PId×eI)}
structure dS where
 list:PId
 next :PId
 v:Option Nat
 aB:List (PId×dR)
variable {h:List (PId×dS)}
def pn (o:eI):Value:=.agg #[.bool o.list,.map o.fE,A o.first.1,A o.first.2]
def oI (e:dS):Value:=.agg #[A e.list.1,A e.list.2,A e.next.1,A e.next.2,.map e.v]
structure cu (w:World) (d aA be:Nat) (os:List (PId×eI)) (a7:List (PId×dS)):Prop where
 ai:w.heap[d]?=some (.cells #[.map (some aA),.map (some be)] 174 (0,0))
 ae:∃es aR,isMap cX pn w aA os es aR
 he:∃es aR,isMap cX oI w be a7 es aR
 hk:∀p∈os,rF w p.2.fE p.2.ks
 aH:∀p∈a7,iN w p.2.v p.2.aB
theorem isMap.af {κ ν:Type} {c:κ->Value} {d:ν->Value} {w w':World} {b:Nat} {m:List (κ×ν)} {e:Array MapEntry} (h:isMap c d w b m e a) (f:J w w'):isMap c d w' b m e a:=
 ⟨by rw[f.block b h.lt];exact h.blk,h.mD,h.nodup,h.old⟩
theorem iN.af{w v a}{w':World}(h:iN w v a)(c:J w w'):iN w' v a:=
 h.imp id fun⟨b,d,f,e,g⟩=>⟨b,d,f,e,g.af c⟩
theorem rF.af{w v ks}{w':World}(h:rF w v ks)(a:J w w'):rF w' v ks:=
 ⟨h.1.imp id fun⟨b,c,d,e,f⟩=>⟨b,c,d,e,f.af a⟩,fun p g=>(h.2 p g).af a⟩
theorem cu.af{w d c e f g}{w':World}(h:cu w d c e f g)(a:J w w'):cu w' d c e f g:=by
 obtain⟨i,j,k⟩:=h.ae;obtain⟨l,m,n⟩:=h.he;refine⟨?_,⟨i,j,k.af a⟩,⟨l,m,n.af a⟩,fun p b=>(h.hk p b).af a,fun p b=>(h.aH p b).af a⟩;rw[a.block d (ao1.1 h.ai).1];exact h.ai
theorem cu.bc{w}(b:cu w a d f i h):w.cell? (H a)=some (.map (some d)):=by simp[World.cell?,b.ai]
theorem cu.a6{w}(b:cu w a f d i h):w.cell? (K a 1)=some (.map (some d)):=by simp[World.cell?,b.ai]
theorem cu.lt{w}(b:cu w a d f i h):a<w.heap.size:=(ao1.1 b.ai).1
theorem ac6(W:World):(zeroValue 170).run prog W=.ok (.agg #[.bool false,.map none,A 0,A 0]) W:=by kernel_rfl
theorem ac7(W:World):(zeroValue 176).run prog W=.ok (.agg #[A 0,A 0,A 0,A 0,.map none]) W:=by kernel_rfl
theorem cu.vP(c:cu b d a f i h)(e g:Int)(ok:Bool):(Instr.lookup 171 (.map (some a)) (.agg #[A e,A g]) ok).run prog b=
  .ok (if ok then .tuple #[((bq (e,g) i).map pn).getD (.agg #[.bool false,.map none,A 0,A 0]),.bool (bq (e,g) i).isSome] else((bq (e,g) i).map pn).getD (.agg #[.bool false,.map none,A 0,A 0])) b:=by
 obtain⟨k,l,j⟩:=c.ae;exact yy xd j underlying171 (ac6 b) (e,g) ok
theorem cu.sB(c:cu b d f a i h)(e g:Int)(ok:Bool):(Instr.lookup 172 (.map (some a)) (.agg #[A e,A g]) ok).run prog b=
  .ok (if ok then .tuple #[((bq (e,g) h).map oI).getD (.agg #[A 0,A 0,A 0,A 0,.map none]),.bool (bq (e,g) h).isSome] else((bq (e,g) h).map oI).getD (.agg #[A 0,A 0,A 0,A 0,.map none])) b:=by
 obtain⟨k,l,j⟩:=c.he;exact yy xd j underlying172 (ac7 b) (e,g) ok
theorem GO{n}(h:cu b a d f i n)(c g:Int):
  O 89 #[Z a,.agg #[A c,A g]] b fun e w'=>e=.returned (.bool (bq (c,g) i).isSome)/\J b w':=by
 have p:=h.bc;have q:=h.lt;have j:J b (b.alloc (.cells #[A c,A g] 36)).drew:=((aoQ _ b).alloc (aoP _) _).drew;have k:J b ((b.alloc (.cells #[A c,A g] 36)).alloc (.cells #[.bool false,.map none,A 0,A 0] 170)).drew:=(((aoQ _ b).alloc (aoP _) _).alloc (by simp) _).drew;have l:=(h.af j).vP c g true;have m:=(h.af k).vP c g true;clear h j k;generalize bq (c,g) i=L at *;cases L with
 |none=>
  simp only[aqt,aqY,art,if_true]at l m;go_enter func89,ntmps89;go_wp2;go_region
  all_goals go_wp2
  all_goals go_ret
  all_goals exact⟨rfl,by go_grown⟩
 |some o=>
  simp only[apw,apr,aqP,if_true,pn]at l m;go_enter func89,ntmps89;go_wp2;go_region
  all_goals go_wp2
  all_goals go_ret
  all_goals exact⟨rfl,by go_grown⟩
def nh (x:PId) (a:List (PId×eI)):Bool:=match bq x a with |some o=>o.list|none=>false
theorem yL{n}(h:cu b a d f i n)(c g:Int):
  O 90 #[Z a,.agg #[A c,A g]] b fun e w'=>e=.returned (.bool (nh (c,g) i))/\J b w':=by
 have q:=h.bc;have r:=h.lt;have j:J b (b.alloc (.cells #[A c,A g] 36)).drew:=((aoQ _ b).alloc (aoP _) _).drew;have k:J b ((b.alloc (.cells #[A c,A g] 36)).alloc (.cells #[.bool false,.map none,A 0,A 0] 170)).drew:=(((aoQ _ b).alloc (aoP _) _).alloc (by simp) _).drew;have l:=(h.af j).vP c g true;have m:=(h.af k).vP c g true;clear h j k;unfold nh;generalize bq (c,g) i=L at *;cases L with
 |none=>
  simp only[aqt,aqY,art,if_true]at l m;go_enter func90,ntmps90;go_wp2;go_region
  all_goals go_wp2
  all_goals go_ret
  all_goals exact⟨rfl,by go_grown⟩
 |some o=>
  obtain⟨p,ok,s,t⟩:=o;simp only[apw,apr,aqP,if_true,pn]at l m;cases p
  all_goals go_enter func90,ntmps90
  all_goals go_wp2
  all_goals go_region
  all_goals go_wp2
  all_goals go_ret
  all_goals exact⟨rfl,by go_grown⟩
end Go.Proofs.YtnkpogjiiohapaaGreatDoor
