/- Our own text. -/
import Derived.Deep.DeepCutAuto
import Derived.Test.YtnkpogjiiohapaaGreatDoorA05
import Derived.Test.YtnkpogjiiohapaaGreatDoorA04
set_option linter.unusedSimpArgs false
set_option linter.unusedVariables false
set_option maxRecDepth 1000000
set_option maxHeartbeats 3200000
namespace Go.Proofs.YtnkpogjiiohapaaGreatDoor
open Go.RowKit Tryz
variable {a d l s z F:Nat}{b n q:World}{c e k D:Value}{f:Nat->Nat->Value}{h w:Nat->Value}{i u:Nat->List bE}{j v:Nat->Nat->Nat}{m:List bH}{r:List bE}{y:TypeId}{B E:Int}{C:List Value}
structure UG (list:Bool) (ss M:List bD):Prop where
 perm:M.Perm ss
 same:list=true->M=ss
 sorted:list=false->K8 M
 keys:list=false->∀s∈ss,hD ⟨#[]⟩ s.key=true
 size:∀s∈ss,s.key.size<=1000
theorem adf{c:Obj}(a:Below ((b.alloc c).alloc (.cells #[A 0,A 0,.bool false,.slice none 0 0] 272)).drew.heap.size ((b.alloc c).alloc (.cells #[A 0,A 0,.bool false,.slice none 0 0] 272)).drew n):
  n.cell? (H (b.heap.size+1))=some (A 0)/\n.cell? (K (b.heap.size+1) 1)=some (A 0)/\n.cell? (K (b.heap.size+1) 2)=some (.bool false)/\n.cell? (K (b.heap.size+1) 3)=some (.slice none 0 0)/\(∀j,n.frozen? (K (b.heap.size+1) j)=false):=by
 refine⟨ae a (by simp[go_sem]),ae a (by simp[go_sem]),ae a (by simp[go_sem]),ae a (by simp[go_sem]),fun j=> ?_⟩;rw[a.frozen (p:=(K (b.heap.size+1) j)) (by simp)];show((b.alloc c).alloc (.cells #[A 0,A 0,.bool false,.slice none 0 0] 272)).frozen? (K (b.heap.size+1) j)=false;exact World.frozen?_alloc_at _ _ _ _ (by simp)
def OT (w:World) (b c:Int) (d:Bool) (e:Value) (p:Value) (wc:World):Prop:=
 ∃a,p=Z a/\wc.cell? (H a)=some (A b)/\wc.cell? (K a 1)=some (A c)/\wc.cell? (K a 2)=some (.bool d)/\wc.cell? (K a 3)=some e/\J w wc
theorem adg{a:Bool}(d:J n b):OT n B E a c (Z b.heap.size) (b.alloc (.cells #[A B,A E,.bool a,c] 272)):=
 ⟨b.heap.size,rfl,by simp[go_sem],by simp[go_sem],by simp[go_sem],by simp[go_sem],d.alloc d.size _⟩
theorem adh{a:Bool}(d:n.cell? (H (b.heap.size+1))=some (A 0))(e:n.cell? (K (b.heap.size+1) 1)=some (A 0))(f:n.cell? (K (b.heap.size+1) 2)=some (.bool false))(g:n.cell? (K (b.heap.size+1) 3)=some (.slice none 0 0))(h:J b n):OT b B E a c (Z (b.heap.size+1)) ((((n.setCell (H (b.heap.size+1)) (A B)).setCell (K (b.heap.size+1) 1) (A E)).setCell (K (b.heap.size+1) 2) (.bool a)).setCell (K (b.heap.size+1) 3) c):=
 ⟨b.heap.size+1,rfl,by simp[go_sem,d],by simp[go_sem,e],by simp[go_sem,f],by simp[go_sem,g],(((h.setCell (by simp) _).setCell (by simp) _).setCell (by simp) _).setCell (by simp) _⟩
theorem adi(B t d:Nat)(mK:Value)(c:List dE)(a:PId->ByteArray)(G:PId->Prop)(L:Nat)(Uy:L<=4)(aG:t<100000)(fy:∀(x:PId) (W:World),G x->fq B t W d mK c->O 153 #[Z d,.agg #[A x.1,A x.2],A ((L:Int)+1)] W fun e N=>e=.returned (.string (a x))/\J W N)(x1 x2:Int)(f:Nat)(mL:f<c.length)(sF:cM (lu (x1,x2)) c=(f:Int))(M:List bD)(bA:UG c[f].list c[f].ss M)(ag:∀s∈c[f].ss,∀x∈s.ad,eF x.obj.1 x.obj.2 0 0=false->G x.obj)(hn:∀s∈c[f].ss,∀x∈s.ad,k7 x.num)(hsz:(mN a c[f].list (M.map bD.p)).size<=1125899906842620)(w:World)(m:fq B t w d mK c):
  O 153 #[Z d,.agg #[A x1,A x2],A L] w fun e N=>e=.returned (.string (zf a c[f].list (M.map bD.p)))/\J w N:=by
 obtain⟨go,cap,cm,aF,C2,c8,za,cZ,gB,nN,bz,iT⟩:=m.row mL;unfold maxLen at cZ;subst aF;have P:=m.cell;have q:=xG.cells m.af rfl f mL;obtain⟨q,a6,bc,bZ⟩:=q;have c9:go<w.heap.size:=aqd w _ q;have hx:=m.lt;have kq:=m.af.2.1 c[f] (ap6 _);obtain⟨bV,bQ,qZ,lv,rE,sJ⟩:=bm kq.1;unfold maxLen at rE;have anT:=(m.ad c[f] (ap6 _)).1;rw[qZ]at bZ kq;clear c8 bz iT gB nN C2;have oS:=aa m;clear m;have mj:=aa kq;clear kq;have Oo:=aa sJ;clear sJ;have HVS:=aa qZ;clear qZ;have tT:=aa fy;clear fy;have fh:=aa ag;clear ag;have eL:=aa hn;clear hn;have u:=aa bA;clear bA;have lP:=aa P;have hlen:M.length=c[f].ss.length:=u.o.perm.length_eq;have sM:=aa hlen;clear hlen;have HFD:=aa (fun W (eI:J w W)=>CN B d _ c x1 x2 W (oS.o.ae eI).cell (oS.o.ae eI).af);generalize cv:c[f].list=g at *;generalize UH:c[f].ss=b at *;have k4:=aa UH;generalize c[f].id.1=zg at *;generalize c[f].id.2=zh at *;clear cv UH;go_enter func153,ntmps153;go_wp2;go_cut [7] (fun p wc=>OT w zg zh g (.slice bV b.length bQ) p wc)
 case first =>
  go_region_with (go_at_call 174;refine(HFD.o _ ?hw).mono ?_;(case hw=>first |exact((apY _ w).alloc (apX _) _).drew|exact(((apY _ w).alloc (apX _) _).alloc (by simp) _).drew);rintro e Q ⟨rfl,R⟩;have v:J w Q:=(by first |exact(((apY _ w).alloc (apX _) _).drew).trans (R.mono (by simp))|exact((((apY _ w).alloc (apX _) _).alloc (by simp) _).drew).trans (R.mono (by simp;omega)));replace P:=ae v P;replace q:=ae v q;replace a6:=ae v a6;replace bc:=ae v bc;replace bZ:=ae v bZ;have ab7:go<Q.heap.size:=aqd Q _ q;have UI:d<Q.heap.size:=aqd Q _ P;have ay:=aa v;clear v;try(obtain⟨y0,y1,y2,y3,nQ⟩:=adf R);have a7:=aa R;clear R)
  all_goals(go_wp2_with fail;go_meet)
  all_goals first |exact adg ay.o|exact adh y0 y1 y2 y3 ay.o
 case rest=>
  obtain⟨aB,rfl,cy,bx,bU,gX,UJ⟩:=hcut;have Ho:=aa bU;have oi:=aa gX;have UK:=aa UJ;clear cy bx bU gX UJ;clear q a6 bc bZ P;go_wp2;go_loopw [8,9,10] (fun s aX wA wr=>∃n:Nat,∃U:ByteArray,n<=b.length/\wA=A n/\s=.string (mN a g ((M.map bD.p).take n))/\aX=.string U/\Hq (U.size<=1000/\(g=false->U=C5 M n))/\J wc wr) (fun _ _ wA _=>b.length-(intOf wA).toNat)
  case atStart=>exact⟨0,_,apZ _,rfl,rfl,rfl,⟨by show 0<=1000;omega,fun _=>(UE M).symm⟩,apY _ _⟩
  case round=>
   obtain⟨n,U,hn,rfl,rfl,rfl,kB,X⟩:=hrel;have bU:=ae X Ho.o;have gX:=ae X oi.o;have anU:aB<wr.heap.size:=aqd wr _ bU;have hMl:(M.map bD.p).length=b.length:=by rw[ap2,sM.o]
   have b0:=OQ a g (M.map bD.p) ((M.map bD.p).length-n) n (by omega);have Y:=aa (UK.o.trans (X.mono UK.o.size));have k:=aa X;clear X;by_cases aE:n<b.length
   ·obtain⟨gs,rfl⟩:=Oo.o n aE;have wD:n<(M.map bD.p).length:=by omega
    have OU:n<M.length:=by rw[sM.o];exact aE
    have UL:=aa (mj.o.ae Y.o);have UM:∀i (hi:i<b.length),b[i]=M[n]->∃F I,wr.cell? (K gs (i*4))=some (.string b[i].key)/\wr.cell? (K gs (i*4+3))=some (.slice F b[i].ad.length I)/\b[i].ad.length<=1000000000/\
      (∀W,J wr W->O 177 #[Z d,.slice F b[i].ad.length I,A L] W fun e N=>e=.returned (.string (lU a b[i].ad))/\J W N)/\
      (lU a b[i].ad).size<=1125899906842620/\b[i].key.size<=1000:=by
     intro i hi nO;obtain⟨dJ,dx,cV,hh⟩:=ib.cells UL.o rfl i hi;have rO:=mj.o.2 b[i] (ap6 _);obtain⟨F,I,dc,anV,anW,_⟩:=bm rO;rw[dc]at hh rO;have Ou:=(adb a g (M.map bD.p) n wD).1;have OV:(M.map bD.p)[n].ad=b[i].ad:=by rw[aqH,nO];rfl
     rw[OV]at Ou;refine⟨F,I,dJ,hh,?_,fun W eI=> ?_,by omega,u.o.size _ (ap6 _)⟩
     ·have :=(oS.o.ad _ (ap6 mL)).2 b[i] (by rw[k4.o];exact ap6 _);omega
     have mI:J w W:=Y.o.trans (eI.mono Y.o.size);exact ac8 B t d _ c a G L Uy tT.o _ b[i].ad W (oS.o.ae mI) (rO.ae mI) (fun x ao=>fh.o b[i] (ap6 _) x ao) (fun x ao=>eL.o b[i] (ap6 _) x ao) (by omega)
    have UN:=aa UM;clear UM;cases g
    ·have anX:=kB.o.1;have adj:=aa (kB.o.2 rfl);have rQ:=aa (abH B aB 0 (.slice (some (H gs)) b.length bQ) b U wr gX UL.o (fun s ad=>by have :=u.o.size s ad;unfold maxLen;omega) (by unfold maxLen;omega));go_wp2_with fail
     refine rQ.o.mono ?_;rintro e w2 ⟨r,rfl,aH,ic,rfl⟩;rw[adj.o]at aH;obtain⟨i,hi,rfl,nO⟩:=ade u.o.perm (u.o.sorted rfl) (u.o.keys rfl) aE aH;obtain⟨F,I,dJ,hh,Hg,l,hvz,y⟩:=UN.o i hi nO;have l:=aa l;have z:=aa nO;clear nO aH;have adk:gs<wr.heap.size:=aqd wr _ dJ;have C:=aa (show mN a false ((M.map bD.p).take (n+1))=om a false (mN a false ((M.map bD.p).take n)) b[i].p by rw[K7 a false wD,aqH,<-z.o]);generalize mN a false ((M.map bD.p).take n)=S at *;have UO:(S++comma).size=S.size+1:=kA _ _;have hSk:(S++b[i].key).size=S.size+b[i].key.size:=kA _ _;have adl:((S++comma)++b[i].key).size=S.size+1+b[i].key.size:=by rw[kA,UO]
     have Hy:((S++b[i].key)++colon).size=S.size+b[i].key.size+1:=by rw[kA,hSk];rfl
     have anY:(((S++comma)++b[i].key)++colon).size=S.size+1+b[i].key.size+1:=by rw[kA,adl];rfl
     have aM:(⟨#[44]⟩:ByteArray)=comma:=rfl;have j0:(⟨#[58]⟩:ByteArray)=colon:=rfl;have kC:comma.size=1:=rfl;have gM:colon.size=1:=rfl;by_cases D:b[i].ad.length=0
     ·go_wp2;go_roundw
      case rel=>exact⟨n+1,_,by omega,by go_num,by rw[C.o];unfold om;rw[if_pos (by exact D)],rfl,⟨y,fun _=>by rw[Hw M OU,<-z.o]⟩,below_drewN k.o _⟩
      case measure=>simp[intOf];omega
     cases fc:S.toList.isEmpty
     ·go_wp2_with (go_at_call 177;go_must (refine(l.o _ ?hw).mono ?_;(case hw=>exact below_drewN (apY _ _) _);rintro e w3 ⟨rfl,j⟩;have E:=aa j;clear j))
      go_roundw
      case rel=>exact⟨n+1,_,by omega,by go_num,by rw[C.o];unfold om;rw[if_neg (by exact D),fc];rfl,rfl,⟨y,fun _=>by rw[Hw M OU,<-z.o]⟩,(below_drewN k.o _).trans (E.o.mono (by exact(below_drewN k.o _).size))⟩
      case measure=>simp[intOf];omega
     go_wp2_with (go_at_call 177;go_must (refine(l.o _ ?hw).mono ?_;(case hw=>exact below_drewN (apY _ _) _);rintro e w3 ⟨rfl,j⟩;have E:=aa j;clear j))
     go_roundw
     case rel=>exact⟨n+1,_,by omega,by go_num,by rw[C.o];unfold om;rw[if_neg (by exact D),fc];rfl,rfl,⟨y,fun _=>by rw[Hw M OU,<-z.o]⟩,(below_drewN k.o _).trans (E.o.mono (by exact(below_drewN k.o _).size))⟩
     case measure=>simp[intOf];omega
    have z:=aa (show b[n]=M[n] by have :=u.o.same rfl;subst this;rfl);obtain⟨F,I,dJ,hh,Hg,l,hvz,y⟩:=UN.o n aE z.o;have l:=aa l;have adk:gs<wr.heap.size:=aqd wr _ dJ;have C:=aa (show mN a true ((M.map bD.p).take (n+1))=om a true (mN a true ((M.map bD.p).take n)) b[n].p by rw[K7 a true wD,aqH,<-z.o]);generalize mN a true ((M.map bD.p).take n)=S at *;have UO:(S++comma).size=S.size+1:=kA _ _;have aM:(⟨#[44]⟩:ByteArray)=comma:=rfl;have j0:(⟨#[58]⟩:ByteArray)=colon:=rfl;have kC:comma.size=1:=rfl;have gM:colon.size=1:=rfl;by_cases D:b[n].ad.length=0
    ·go_wp2;go_roundw
     case rel=>exact⟨n+1,_,by omega,by go_num,by rw[C.o];unfold om;rw[if_pos (by exact D)],rfl,⟨y,fun h=>by cases h⟩,k.o⟩
     case measure=>simp[intOf];omega
    cases fc:S.toList.isEmpty
    ·go_wp2_with (go_at_call 177;go_must (refine(l.o _ ?hw).mono ?_;(case hw=>exact apY _ _);rintro e w3 ⟨rfl,j⟩;have E:=aa j;clear j))
     go_roundw
     case rel=>exact⟨n+1,_,by omega,by go_num,by rw[C.o];unfold om;rw[if_neg (by exact D),fc];rfl,rfl,⟨y,fun h=>by cases h⟩,(k.o).trans (E.o.mono (by exact(k.o).size))⟩
     case measure=>simp[intOf];omega
    go_wp2_with (go_at_call 177;go_must (refine(l.o _ ?hw).mono ?_;(case hw=>exact apY _ _);rintro e w3 ⟨rfl,j⟩;have E:=aa j;clear j))
    go_roundw
    case rel=>exact⟨n+1,_,by omega,by go_num,by rw[C.o];unfold om;rw[if_neg (by exact D),fc];rfl,rfl,⟨y,fun h=>by cases h⟩,(k.o).trans (E.o.mono (by exact(k.o).size))⟩
    case measure=>simp[intOf];omega
   have hML:(M.map bD.p).take n=M.map bD.p:=aql (by omega);rw[hML];have anZ:=hsz;have La:=aa (show ∀S,S=mN a g (M.map bD.p)->zf a g (M.map bD.p)=if g then((⟨#[91]⟩:ByteArray)++S)++⟨#[93]⟩ else((⟨#[123]⟩:ByteArray)++S)++⟨#[125]⟩ from fun S e=>by rw[e];rfl);have La:=aa (La.o _ rfl);generalize mN a g (M.map bD.p)=S at *;have Da:((⟨#[91]⟩:ByteArray)++S).size=1+S.size:=kA _ _;have hS2:((⟨#[123]⟩:ByteArray)++S).size=1+S.size:=kA _ _;cases g
   ·go_wp2;go_ret
    exact⟨A0 La.o.symm,Y.o⟩
   go_wp2;go_ret
   exact⟨A0 La.o.symm,Y.o⟩
theorem UP:∀(a b:List UInt8),Op.bytesLess a b=false->Op.bytesLess b a=false->a=b
 |[],[],_,_=>rfl
 |[],_::_,h,_=>by simp[Op.bytesLess]at h
 |_::_,[],_,h=>by simp[Op.bytesLess]at h
 |x::a,y::b,c,d=>by
  simp[Op.bytesLess,UInt8.lt_iff_toNat_lt,UInt8.le_iff_toNat_le]at c d;have e:x=y:=UInt8.toNat_inj.1 (by omega);subst e;rw[UP a b (c.2 rfl) (d.2 rfl)]
theorem UQ{a b:ByteArray}(c:hD a b=false)(d:hD b a=false):a=b:=by
 apply arS;apply Array.toList_inj.1;exact UP _ _ c d
def Fl (a b:b9):Bool:= !hD b.key a.key
def q0 (l:List b9):List b9:=l.mergeSort Fl
def xW (a b:bD):Bool:= !hD b.key a.key
def A1 (l:List bD):List bD:=l.mergeSort xW
theorem adm(l:List bD):(A1 l).map bD.p=q0 (l.map bD.p):=by
 unfold A1 q0;exact List.map_mergeSort (fun a _ b _=>rfl)
theorem UR(l:List bD):(A1 l).Perm l:=arT _ _
theorem US(a b c:bD)(g:xW a b=true)(d:xW b c=true):xW a c=true:=by
 unfold xW at *;simp at *;cases h:hD c.key a.key
 ·rfl
 cases f:hD a.key b.key
 ·have e:=UQ f g;rw[e]at h;rw[d]at h;cases h
 have :=OS h f;rw[d]at this;cases this
theorem UT(a b:bD):(xW a b||xW b a)=true:=by
 unfold xW;cases h:hD b.key a.key
 ·simp
 cases c:hD a.key b.key
 ·simp
 have :=OS h c;rw[OR]at this;cases this
theorem adn(l:List bD)(c:l.Pairwise fun a b=>a.key≠b.key):K8 (A1 l):=by
 unfold K8;have d:(A1 l).Pairwise fun a b=>xW a b=true:=asw US UT l
 have e:(A1 l).Pairwise fun a b=>a.key≠b.key:=(List.Perm.pairwise_iff (fun{a b} h=>aqa h) (UR l)).2 c
 refine(d.and e).imp fun{a b} ⟨h,f⟩=> ?_
 unfold xW at h;simp at h;cases g:hD a.key b.key
 ·exact absurd (UQ g h) f
 rfl
def kg (o:bg):List b9:=if o.list then o.ss else q0 o.ss
def q2 (D:List bg):Nat->PId->ByteArray
 |0,_=>⟨#[35]⟩
 |r+1,x=>match D.find? (jw x) with
  |some o=>zf (q2 D r) o.list (kg o)
  |none=>⟨#[]⟩
structure OW (D:List bg):Prop where
 keys:∀o∈D,o.list=false->(o.ss.Pairwise fun a b=>a.key≠b.key)/\∀s∈o.ss,s.key≠⟨#[]⟩
 ado:∀o∈D,∀s∈o.ss,s.key.size<=1000
 nums:∀o∈D,∀s∈o.ss,∀h∈s.ad,k7 h.num
 wE:∀o∈D,∀s∈o.ss,∀h∈s.ad,h.obj=(0,0)\/∃o'∈D,o'.id=h.obj
 size:∀r,r<=4->∀o∈D,(mN (q2 D r) o.list (kg o)).size<=1125899906842620
theorem adp{k:ByteArray}(h:k≠⟨#[]⟩):hD ⟨#[]⟩ k=true:=by
 unfold hD;show Op.bytesLess [] k.data.toList=true;cases b:k.data.toList with
 |nil=>exact absurd (by apply arS;apply Array.toList_inj.1;rw[b]) h
 |cons a l=>rfl
theorem adq{D:List bg}{x:PId}{k:Nat}(h:cM (jw x) D=(k:Int)):∃a:k<D.length,D.find? (jw x)=some D[k]:=by
 unfold cM at h;split at h
 ·rename_i i b
  have e:i=k:=by omega
  subst e;obtain⟨a,c,d⟩:=arA.1 b;refine⟨a,?_⟩;rw[ar5];exact⟨c,i,a,rfl,fun j f=>by simpa using d j f⟩
 omega
theorem adr(d:Nat)(a b:Int)(w:World):
  O 153 #[Z d,.agg #[A a,A b],A 5] w fun e c=>e=.returned (.string ⟨#[35]⟩)/\J w c:=by
 go_enter func153,ntmps153;go_wp2;go_ret
 exact⟨rfl,(apY _ _).alloc (apX _) _⟩
theorem ads{b:List dE}{x:PId}(h:∃o∈b.map dE.p,o.id=x):∃k,∃_:k<b.length,cM (lu x) b=(k:Int):=by
 obtain⟨o,g,e⟩:=h;have l:=yY (lu x) b;have m:=CR (lu x) b;by_cases n:cM (lu x) b<0
 ·exfalso;have d:cM (lu x) b= -1:=by omega
  unfold cM at d;split at d
  ·omega
  rename_i f
  rw[ar1]at f;obtain⟨c,i,rfl⟩:=ap5.1 g;have :=f c i;unfold lu at this;rw[yX]at this;exact this (by have :c.id=x:=e;rw[this])
 obtain⟨k,j⟩:=arl (a:=cM (lu x) b) (by omega);exact⟨k,by omega,j⟩
theorem adt{o:dE}(c:o.list=false->(o.ss.Pairwise fun a b=>a.key≠b.key)/\∀s∈o.ss,s.key≠⟨#[]⟩)(d:∀s∈o.ss,s.key.size<=1000):
  UG o.list o.ss (if o.list then o.ss else A1 o.ss):=by
 cases h:o.list
 ·rw[h]at c;exact⟨UR _,fun h=>(by cases h),fun _=>adn _ (c rfl).1,fun _ s e=>adp ((c rfl).2 s e),d⟩
 exact⟨List.Perm.refl _,fun _=>rfl,fun h=>(by cases h),fun h=>(by cases h),d⟩
theorem adu(B t d:Nat)(n:Value)(c:List dE)(F:t<100000)(i:OW (c.map dE.p)):
  ∀(r:Nat),r<=4->∀(x:PId) (w:World),(∃o∈c.map dE.p,o.id=x)->fq B t w d n c->
   O 153 #[Z d,.agg #[A x.1,A x.2],A ((5-r:Nat):Int)] w fun e q=>e=.returned (.string (q2 (c.map dE.p) r x))/\J w q:=by
 intro r
 induction r with
 |zero=>intro _ x w _ _;exact adr d x.1 x.2 w
 |succ r ih=>
  intro Y x w I L;obtain⟨f,M,u⟩:=ads I;have j:c[f].p∈c.map dE.p:=arU (ap6 _);have l:∀s∈c[f].ss,s.p∈c[f].p.ss:=fun s g=>arU g
  have N:=adt (o:=c[f])
   (fun v=>⟨by
    have :=(i.keys _ j v).1;have z:(c[f].ss.map bD.p).Pairwise fun a b=>a.key≠b.key:=this
    rw[aqN]at z;exact z,fun s g=>(i.keys _ j v).2 s.p (l s g)⟩)
   (fun s g=>i.ado _ j s.p (l s g))
  have C:(if c[f].list then c[f].ss else A1 c[f].ss).map bD.p=kg c[f].p:=by
   unfold kg;show _=if c[f].list then c[f].ss.map bD.p else q0 (c[f].ss.map bD.p)
   split
   ·rfl
   exact adm _
  have P:(c.map dE.p).find? (jw x)=some c[f].p:=by
   obtain⟨cN,h⟩:=adq (D:=c.map dE.p) (x:=x) (k:=f) (by rw[KT];exact u);rw[h,aqH]
  have Q:=adi B t d n c (q2 (c.map dE.p) r) (fun y=>∃o∈c.map dE.p,o.id=y) (5-(r+1)) (by omega) F
   (fun y W R S=>by
    have :=ih (by omega) y W R S;rw[show((5-r:Nat):Int)=((5-(r+1):Nat):Int)+1 by omega]at this;exact this)
   x.1 x.2 f M u _ N
   (fun s g h m E=>by
    rcases i.wE _ j s.p (l s g) h m with e|e
    ·rw[e]at E;simp[eF]at E
    exact e)
   (fun s g h m=>i.nums _ j s.p (l s g) h m)
   (by rw[C];exact i.size r (by omega) _ j)
   w L
  refine Q.mono fun e q ⟨U,X⟩=>⟨?_,X⟩
  rw[U,C];unfold q2;rw[P];rfl
theorem UU(p:bH)(o:bg):(gq p o).id=o.id:=by
 unfold gq;split <;>split <;>rfl
theorem adw{D:List bg}{f:bg->bg}(a:∀o,(f o).id=o.id)(k:Nat):(D.modify k f).map bg.id=D.map bg.id:=by
 apply aq9;intro j;rw[ark,ark,asn];cases D[j]? with
 |none=>simp
 |some o=>by_cases e:k=j<;>simp[e,a]
theorem adx(D:List bg)(p:bH):∃l,(cc D p).map bg.id=D.map bg.id++l:=by
 unfold cc;split
 ·exact⟨[p.id],by simp⟩
 split
 ·exact⟨[],by simp⟩
 exact⟨[],by rw[adw (UU p)];simp⟩
theorem ady(S:List bH):∀D:List bg,(∃o∈D,o.id=(0,0))->∃o∈S.foldl cc D,o.id=(0,0):=by
 induction S with
 |nil=>intro D h;exact h
 |cons p S ih=>
  intro D ⟨o,a,e⟩;refine ih _ ?_;obtain⟨l,b⟩:=adx D p;have :(0,0)∈(cc D p).map bg.id:=by rw[b];exact aq3 _ (ap5.2 ⟨o,a,e⟩)
  obtain⟨c,d,f⟩:=ap5.1 this;exact⟨c,d,f⟩
def dB (o:bg):List PId:=(o.ss.filter fun s=>decide (0<s.ad.length)).map b9.id
theorem Lc(l:List bD):jI l=((l.map bD.p).filter fun s=>decide (0<s.ad.length)).map b9.id:=by
 unfold jI;rw[List.filter_map,aqO];rfl
def iF (D:List bg) (x:PId):Except Int (List PId):=
 match oQ D x true with
 |.error n=>.error n
 |.ok k=>.ok (match D[k]? with |some o=>dB o|none=>[])
theorem adz(r:Shown b a l c e k h i f j d m)(w x:Int):
  O 104 #[Z a,A d,.agg #[A w,A x]] b fun g D=>
   J b D/\((∃n,(n=3\/n=4)/\iF (m.foldl cc c4) (w,x)=.error n/\g=.returned (.tuple #[.slice none 0 0,A n]))\/
   (∃v p,iF (m.foldl cc c4) (w,x)=.ok p/\p.length<=240/\g=.returned (.tuple #[v,A 0])/\gA b.heap.size D v p)):=by
 have U:=aa r;clear r;generalize E:m.foldl cc c4=F;have W:=aa E;clear E;go_enter func104,ntmps104;go_wp2_with fail
 refine(Hu (U.o.ae ((apY _ b).alloc (apX _) _)) w x true).mono ?_;rw[W.o];have y:=aa ((apY b.heap.size b).alloc (apX _) (.cells #[A w,A x] 36));rintro g w1 (⟨n,z,I,rfl,L⟩|⟨q,s,X,cap,Y,z,rfl,M⟩)
 ·have N:=aa (And.intro z L);clear z L;have eL:=aa I;have oR:¬n=0:=by omega
  clear I;go_wp2;go_ret2
  exact⟨y.o.trans (N.o.2.mono y.o.size),.inl ⟨n,eL.o,by unfold iF;rw[N.o.1],rfl⟩⟩
 have H1:=aa z;clear z;have t:=aa M;clear M;have mj:=aa t.o.hr;have lB:=aa t.o.cell;have P:=t.o.len;have Q:=aa P;clear P;have k4:=aa t.o.ss;have qX:=t.o.lt;generalize Y[q]=B at *;have kO:=aa (show iF F (w,x)=.ok (jI B.ss) by
   unfold iF;rw[H1.o];have :=k4.o;cases C:F[q]? with
   |none=>rw[C]at this;cases this
   |some o=>
    rw[C]at this;simp at this;simp only[C,dB];rw[this,Lc])
 go_wp2_with fail
 refine(KA _ X (q*4) _ B.ss _ lB.o mj.o (by have :=Q.o.1;omega)).mono ?_;rintro g w2 ⟨u,rfl,R,S⟩;have gr:=aa R;clear R;have bd:=aa S;clear S;go_wp2;go_ret2
 refine⟨y.o.trans ((t.o.below.trans (bd.o.mono t.o.below.size)).mono y.o.size),.inr ⟨u,_,kO.o,?_,rfl,gT gr.o ?_⟩⟩
 ·have :=G9 B.ss B.ss.length;rw[aql (apX _)]at this;have :=Q.o.1;omega
 have :=t.o.below.size;have :=y.o.size;omega
theorem adA(l:e8 b a d c e k h i f j)(g n p:Int)(r:¬(0<=g/\g<d)):
  O 104 #[Z a,A g,.agg #[A n,A p]] b fun m t=>
   m=.returned (.tuple #[.slice none 0 0,A 2])/\J b t:=by
 have u:=aa l;clear l;have v:=aa r;clear r;have q:=aa ((apY b.heap.size b).alloc (apX _) (.cells #[A n,A p] 36));go_enter func104,ntmps104;go_wp2_with fail
 refine(Ht (u.o.ae q.o) g n p true v.o).mono ?_;rintro m x ⟨rfl,s⟩;have w:=aa s;clear s;go_wp2;go_ret2
 exact⟨rfl,q.o.trans (w.o.mono q.o.size)⟩
theorem Ld(l:e8 b a d c e k h i f j)(g n p:Int)(t:ByteArray)(r:¬(0<=g/\g<d)):
  O 143 #[Z a,A g,.agg #[A n,A p],.string t] b fun m u=>
   m=.returned (.tuple #[.slice none 0 0,A 2])/\J b u:=by
 have v:=aa l;clear l;have w:=aa r;clear r;have q:=aa ((apY b.heap.size b).alloc (apX _) (.cells #[A n,A p] 36));go_enter func143,ntmps143;go_wp2_with fail
 refine(Ht (v.o.ae q.o) g n p false w.o).mono ?_;rintro m y ⟨rfl,s⟩;have x:=aa s;clear s;go_wp2;go_ret2
 exact⟨rfl,q.o.trans (x.o.mono q.o.size)⟩
theorem adB(l:e8 b a d c e k h i f j)(g:Int)(n:¬(0<=g/\g<d)):
  O 103 #[Z a,A g] b fun m q=>m=.returned (.tuple #[.string ⟨#[]⟩,A 2])/\J b q:=by
 have r:=aa l;clear l;have s:=aa (decide_eq_false n);clear n;go_enter func103,ntmps103;go_wp2_with fail
 refine(xU r.o g).mono ?_;rintro m u ⟨p,t⟩;rw[s.o]at p;subst p;subst t;go_wp2;go_ret2
 exact⟨rfl,apY _ _⟩
theorem adC(n:Shown b d l c e k h i f j a m)(r:OW (m.foldl cc c4)):
  O 103 #[Z d,A a] b fun g C=>g=.returned (.tuple #[.string (q2 (m.foldl cc c4) 4 (0,0)),A 0])/\J b C:=by
 have D:=aa (decide_eq_true (show 0<=(a:Int)/\(a:Int)<l by have :=n.hc;omega));have s:=aa n;clear n;have E:=aa r;clear r;have F:=aa (ady m c4 ⟨_,ap9.2 rfl,rfl⟩);generalize t:q2 (m.foldl cc c4) 4 (0,0)=S;have I:=aa t;clear t;go_enter func103,ntmps103;go_wp2_with fail
 refine(xU s.o.room a).mono ?_;rintro g u ⟨v,L⟩;rw[D.o]at v;subst v;subst L;go_wp2_with fail
 refine(Uo s.o).mono ?_;rintro g u ⟨p,M,N,rfl,w,x,y⟩;have P:=aa w;clear w;have z:=aa y;clear y;have q:=aa x;clear x;have Q:=aa (adu _ 240 p M N (by omega) (by rw[q.o];exact E.o) 4 (by omega) (0,0) u (by rw[q.o];exact F.o) P.o);go_wp2_with fail
 refine Q.o.mono ?_;rintro g U ⟨rfl,B⟩;have R:=aa B;clear B;rw[q.o,I.o];go_wp2;go_ret2
 exact⟨rfl,z.o.trans (R.o.mono z.o.size)⟩
abbrev dU:=Int×PId
def nR (x:dU):List Value:=[A x.1,A x.2.1,A x.2.2]
def valOf (h:cP):dU:=(h.num,h.obj)
def oT (B:Nat) (w:World) (v:Value) (l:List dU):Prop:=w.ownsRow B 57 3 v l.length (l.flatMap nR)
theorem oT.alloc{B w v l}(h:oT B w v l)(o:Obj):oT B (w.alloc o) v l:=arj h o
theorem oT.below{l}(h:oT a b c l)(d:Below a n b)(e:a<=b.heap.size)(f:b.grownBy q c.ownBlock):Below a n q:=
 d.grown f e fun k g=>(ap1 h k g).1
theorem adD{x:dU}:∀u∈nR x,u.oneCell'=true:=by
 intro u a;simp[nR]at a;rcases a with rfl|rfl|rfl<;>rfl
theorem UX{x:dU}(d:b.cell? (H a)=some (A x.1))(e:b.cell? (K a 1)=some (A x.2.1))(f:b.cell? (K a 2)=some (A x.2.2)):
  ∀j u,(nR x)[j]?=some u->b.cell? (K a j)=some u:=by
 intro j u c
 match j with
 |0=>simp[nR]at c;rw[<-c];exact d
 |1=>simp[nR]at c;rw[<-c];exact e
 |2=>simp[nR]at c;rw[<-c];exact f
 |j+3=>simp[nR]at c
theorem UY{f:Array Oper}{rest:List Oper}{o:Oper}{a:Act}{Q:Exit->Act->World->Prop}(i:o.guard=none)(s x:Operand)(k:o.op=.call {callee:=.builtin .append,args:= #[s,x],argTypes:= #[53,53]})(B:Nat)(v:Value)(l:List dU)(m:a.eval s=v)(n:oT B b v l)(g c:Nat)(y:dU)(p:a.eval x=.slice (some (H g)) 1 c)(q:∀j u,(nR y)[j]?=some u->b.cell? (K g j)=some u)(z:l.length<1000000000)(r:B<=b.heap.size)(h:∀e d,oT B d e (l++[y])->b.grownBy d v.ownBlock->wpList prog f Q rest (a.put o.dst e) d):wpList prog f Q (o::rest) a b:=
 Kw nR 3 24 53 57 (.agg #[A 0,A 0,A 0]) (by kernel_rfl) underlying53 rfl (by omega) (fun _=>rfl) i s x k B v l m n g c y p
  q adD (by omega) (by unfold maxLen;omega) r (fun e d t w=>h e d (by unfold oT;simpa using t) w)
def vd (D:List bg) (x:PId) (a:ByteArray):Except Int (List dU):=
 match lS D x a with
 |.error n=>.error n
 |.ok b=>.ok (b.map valOf)
theorem adE(t:Shown b a l c e k h i f j d m)(z B:Int)(C:ByteArray)(P:C.size<=maxLen):
  O 107 #[Z a,A d,.agg #[A z,A B],.string C] b fun q Q=>
   J b Q/\((∃n,(n=3\/n=4\/n=5)/\vd (m.foldl cc c4) (z,B) C=.error n/\q=.returned (.tuple #[.slice none 0 0,A n]))\/
   (∃v r,vd (m.foldl cc c4) (z,B) C=.ok r/\r.length<=240/\q=.returned (.tuple #[v,A 0])/\oT b.heap.size Q v r)):=by
 have az:=aa t;clear t;have D:=aa ((apY b.heap.size b).alloc (apX _) (.cells #[A z,A B] 36));have R:=aa (K6 (az.o.ae D.o) z B C P);clear P;generalize S:m.foldl cc c4=mm;rw[S]at R;clear S;go_enter func107,ntmps107;go_wp2_with fail
 refine R.o.mono ?_;rintro q I ⟨E,⟨n,U,h1,rfl⟩|⟨v,y,h1,hl,rfl,L⟩⟩
 ·have W:=aa (And.intro h1 E);clear h1 E;have M:=aa U;have oR:¬n=0:=by omega
  clear U;go_wp2;go_ret2
  exact⟨D.o.trans (W.o.2.mono D.o.size),.inl ⟨n,M.o,by unfold vd;rw[W.o.1],rfl⟩⟩
 have H1:=aa h1;clear h1;have X:=aa (D.o.trans (E.mono D.o.size));clear E;obtain⟨w,cap,rfl,jq,cZ,Y⟩:=bm L;unfold maxLen at cZ;have dn:=aa Y;clear Y;have oS:=aa L;clear L;have bM:=X.o.size;go_wp2;go_loopw [12,13] (fun u s wr=>∃p:Nat,p<=y.length/\s=A p/\oT I.heap.size wr u ((y.take p).map valOf)/\J I wr) (fun _ s _=>y.length-(intOf s).toNat)
 case atStart=>exact⟨0,apZ _,rfl,aqe _ _ _ _,apY _ _⟩
 case round=>
  obtain⟨p,hk,rfl,F,x⟩:=hrel;by_cases N:p<y.length
  ·obtain⟨g,rfl⟩:=dn.o p N;obtain⟨d0,d1,d2,d3,d4⟩:=k1.cells oS.o rfl p N;replace d2:=ae x d2;replace d3:=ae x d3;replace d4:=ae x d4;clear d0 d1;have cR:=aa F;clear F;go_wp2_with (at_builtin;go_must (refine UY rfl (.tmp 31) (.tmp 37) rfl I.heap.size _ ((y.take p).map valOf) rfl ?h1 wr.heap.size 1 (valOf y[p]) rfl ?h2 ?aL ?b1 ?_;(case h1=>exact cR.o.alloc _);(case h2=>exact UX (by simp[go_sem,valOf]) (by simp[go_sem,valOf]) (by simp[go_sem,valOf]));(case aL=>simp;omega);(case b1=>have :=x.size;simp;omega);intro v' w2 fE eD;have fh:=aa eD;clear eD;have M:=aa fE;clear fE))
   go_roundw
   case rel=>exact⟨p+1,by omega,by go_num,by rw[EY _ N];exact M.o,oT.below (cR.o.alloc _) (x.alloc x.size _) (by have :=x.size;simp;omega) fh.o⟩
   case measure=>simp[intOf];omega
  go_wp2;go_ret2
  rw[aql (by omega)]at F;exact⟨X.o.trans (x.mono bM),.inr ⟨_,_,by unfold vd;rw[H1.o],by simpa using hl,rfl,gT F bM⟩⟩
theorem adF(l:e8 b a d c e k h i f j)(g n p:Int)(r:ByteArray)(s:¬(0<=g/\g<d)):
  O 107 #[Z a,A g,.agg #[A n,A p],.string r] b fun m u=>
   m=.returned (.tuple #[.slice none 0 0,A 2])/\J b u:=by
 have q:=aa ((apY b.heap.size b).alloc (apX _) (.cells #[A n,A p] 36));have v:=aa (Ld (l.ae q.o) g n p r s);clear l s;go_enter func107,ntmps107;go_wp2_with fail
 refine v.o.mono ?_;rintro m x ⟨rfl,t⟩;have w:=aa t;clear t;go_wp2;go_ret2
 exact⟨rfl,q.o.trans (w.o.mono q.o.size)⟩
def jN (l:List PId) (i:Int):Option PId:=if i<0\/i>l.length then none else if i=0 then some (0,0) else l[(i-1).toNat]?
theorem UZ(v:Value)(l:List PId)(i:Int)(w:World)(h:eE w v l):
  O 148 #[v,A i] w fun e n=>J w n/\
   ((jN l i=none/\e=.returned (.tuple #[.agg #[A 0,A 0],.bool false]))\/∃x,jN l i=some x/\e=.returned (.tuple #[.agg #[A x.1,A x.2],.bool true])):=by
 obtain⟨a,r,rfl,s,p,c⟩:=bm h;unfold maxLen at p;by_cases j:i<0
 ·have b:=aa (show jN l i=none by unfold jN;rw[if_pos (.inl j)]);clear h c;go_enter func148,ntmps148;go_wp2;exact bodyPost_ret (v:=.tuple #[.agg #[A 0,A 0],.bool false]) (by simp[results,results148,go_sem]) rfl ⟨(apY _ _).alloc (apX _) _,.inl ⟨b.o,rfl⟩⟩
 by_cases m:(l.length:Int)<i
 ·have b:=aa (show jN l i=none by unfold jN;rw[if_pos (.inr m)]);clear h c;go_enter func148,ntmps148;go_wp2;exact bodyPost_ret (v:=.tuple #[.agg #[A 0,A 0],.bool false]) (by simp[results,results148,go_sem]) rfl ⟨(apY _ _).alloc (apX _) _,.inl ⟨b.o,rfl⟩⟩
 by_cases d:i=0
 ·have b:=aa (show jN l i=some (0,0) by unfold jN;rw[if_neg (by omega),if_pos d]);subst d;clear h c j m;go_enter func148,ntmps148;go_wp2;exact bodyPost_ret (v:=.tuple #[.agg #[A 0,A 0],.bool true]) (by simp[results,results148,go_sem]) rfl ⟨(apY _ _).alloc (apX _) _,.inr ⟨(0,0),b.o,rfl⟩⟩
 obtain⟨k,rfl⟩:∃k:Nat,i=(k:Int)+1:=⟨(i-1).toNat,by omega⟩;have f:k<l.length:=by omega
 obtain⟨g,rfl⟩:=c k f;obtain⟨q,t⟩:=eE.cells h rfl k f;have u:g<w.heap.size:=aqd w _ q;have b:=aa (show jN l ((k:Int)+1)=some l[k] by unfold jN;rw[if_neg (by omega),if_neg (by omega)];simp[f]);clear h c d;go_enter func148,ntmps148;go_wp2;exact bodyPost_ret (v:=.tuple #[.agg #[A l[k].1,A l[k].2],.bool true]) (by simp[results,results148,go_sem]) rfl ⟨by go_grown,.inr ⟨l[k].1,l[k].2,b.o,rfl⟩⟩
structure Apart (N:Nat) (aW:Nat->Value) (cp:Nat->Nat->Value):Prop where
 ops:∀i j,i<N->j<N->i≠j->(aW i).ownBlock=none\/(aW i).ownBlock≠(aW j).ownBlock
 has:∀c b7,c<N->b7<N->c≠b7->(cp c 0).ownBlock≠(cp b7 0).ownBlock
def upd {α:Type} (f:Nat->α) (c:Nat) (x:α):Nat->α:=fun i=>if i=c then x else f i
theorem bF {α:Type} (f:Nat->α) (c:Nat) (x:α):upd f c x c=x:=by simp[upd]
theorem b6 {α:Type} (f:Nat->α) (x:α) (h:a≠d):upd f d x a=f a:=by simp[upd,h]
theorem Le {α β:Type} (f:Nat->α) (g:α->β) (c:Nat) (x:α) (N:Nat):(List.range N).map (fun i=>g (upd f c x i))=((List.range N).map fun i=>g (f i)).set c (g x):=by
 apply aq9;intro j;rw[aso];by_cases a:c=j
 ·subst a;by_cases b:c<N<;>simp[b,upd]
 by_cases b:j<N
 ·simp[b,a,upd,aqa a]
 simp_all
theorem e8.add{w}{W:World}(q:e8 w s d c k D h i f j)(E:Apart d h f)(N:a<d){gO gH:Nat}(hgO:c.ownBlock=some gO)(U0:(f a 0).ownBlock=some gH){v':Value}{o:bE}(hI:W.ownsRow 0 255 1 c d (((List.range d).map h).set a v'))(hH:W.ownsRow 0 3 1 (f a 0) d (((List.range d).map fun b=>A (j a b)).set a (A ((j a a:Int)+1))))(aF:W.ownsRow 0 233 15 v' ((i a).length+1) ((i a++[o]).flatMap lR))(af:eE W o.du o.p.old)(A2:∀(g:Nat) (F:Array Value),w.heap[g]?=some (.cells F 36 (0,0))->W.heap[g]?=w.heap[g]?)(X:∀r,r<w.heap.size->r≠gO->r≠gH->some r≠(h a).ownBlock->W.heap[r]?=w.heap[r]?)(de:iR w (h a) v')(A3:(i a).length<60)(oU:j a a=(i a).length):
  e8 W s d c k D (upd h a v') (upd i a (i a++[o])) f (fun m b=>if m=a/\b=a then j a a+1 else j m b)/\Apart d (upd h a v') f:=by
 have pJ:=(ap8.1 q.aH).1;obtain⟨qW,Y⟩:=bq q.hI hgO;obtain⟨nm,Fi⟩:=bq (q.hH a N) U0;have jO:∀(r:Nat) (I:Array Value) (e:TypeId),w.heap[r]?=some (.cells I e (0,0))->e≠255->e≠3->e≠233->W.heap[r]?=w.heap[r]?:=by
  intro r I e R L h2 al;refine X r (ap8.1 R).1 ?_ ?_ ?_
  ·intro v;subst v;exact L (bK R Y)
  ·intro v;subst v;exact h2 (bK R Fi)
  intro v;obtain⟨b7,cg⟩:=bq (q.eu a N).1 v.symm;exact al (bK R cg)
 have U1:∀{u:Value} {l:List PId},eE w u l->eE W u l:=by
  intro u l P;refine⟨P.1,?_⟩;rcases P.2 with z|⟨g,cap,F,aj,C,y,rest⟩
  ·exact .inl z
  exact .inr ⟨g,cap,F,aj,C,by rw[A2 g F y];exact y,rest⟩
 have fe:∀{e:TypeId} {size:Nat} {u:Value} {n:Nat} {xs:List Value},w.ownsRow 0 e size u n xs->(∀g,u.ownBlock=some g->W.heap[g]?=w.heap[g]?)->W.ownsRow 0 e size u n xs:=by
  intro e size u n xs P y;refine⟨P.1,?_⟩;rcases P.2 with z|⟨g,cap,F,rfl,C,qd,rest⟩
  ·exact .inl z
  exact .inr ⟨g,cap,F,rfl,C,by rw[y g rfl];omega,rest⟩
 refine⟨⟨?_,q.hN,?_,?_,?_,?_,?_,?_⟩,?_⟩
 ·rw[jO s _ _ q.aH (by decide) (by decide) (by decide)];exact q.aH
 ·have :=Le h id a v' d;simp only[id]at this;rw[show(List.range d).map (upd h a v')=(List.range d).map (fun b=>upd h a v' b) from rfl,this];exact hI
 ·intro b x;by_cases e:b=a
  ·subst e;rw[bF,bF];refine⟨by rw[ap4];exact aF,fun o' hd=> ?_⟩;rcases ap7.1 hd with L|L
   ·exact U1 ((q.eu b x).2 o' L)
   simp at L;subst L;exact af
  rw[b6 _ _ e,b6 _ _ e];refine⟨fe (q.eu b x).1 (fun g y=> ?_),fun o' hd=>U1 ((q.eu b x).2 o' hd)⟩;obtain⟨I,B⟩:=bq (q.eu b x).1 y;refine X g (ap8.1 B).1 ?_ ?_ ?_
  ·intro v;subst v;exact absurd (bK B Y) (by decide)
  ·intro v;subst v;exact absurd (bK B Fi) (by decide)
  intro v;rcases E.ops b a x N e with Q|Q
  ·rw[Q]at y;cases y
  exact Q (by rw[y,v])
 ·exact fe q.fF (fun g y=>by obtain⟨I,B⟩:=bq q.fF y;exact jO g I _ B (by decide) (by decide) (by decide))
 ·intro m M;by_cases e:m=a
  ·subst e;have aw:(List.range d).map (fun b=>A ((if m=m/\b=m then j m m+1 else j m b:Nat):Int))=((List.range d).map fun b=>A (j m b)).set m (A ((j m m:Int)+1)):=by
    have :=Le (fun b=>j m b) (fun n=>A (n:Int)) m (j m m+1) d;rw[show((j m m:Int)+1)=((j m m+1:Nat):Int) by omega,<-this];apply arx;intro b _;simp[upd]
   rw[aw];exact hH
  have aw:(List.range d).map (fun b=>A ((if m=a/\b=a then j a a+1 else j m b:Nat):Int))=(List.range d).map fun b=>A (j m b):=by
   apply arx;intro b _;simp[e]
  rw[aw];refine fe (q.hH m M) (fun g y=> ?_);obtain⟨I,B⟩:=bq (q.hH m M) y;refine X g (ap8.1 B).1 ?_ ?_ ?_
  ·intro v;subst v;exact absurd (bK B Y) (by decide)
  ·intro v;subst v;exact E.has m a M N e (by rw[y,U0])
  intro v;obtain⟨b7,cg⟩:=bq (q.eu a N).1 v.symm;exact absurd (bK B cg) (by decide)
 ·intro m b M x;by_cases e:b=a
  ·subst e;rw[bF,ap4];have :=q.hle m b M x;split
   ·simp;omega
   simp;omega
  rw[b6 _ _ e,if_neg (by intro Q;exact e Q.2)];exact q.hle m b M x
 ·intro b x;by_cases e:b=a
  ·subst e;rw[bF,ap4];simp;omega
  rw[b6 _ _ e];exact q.hsz b x
 refine⟨fun b t x S U=> ?_,E.has⟩;have aE:=fun b x g y=>(ap1 (q.eu b x).1 g y).2
 by_cases nO:b=a
 ·subst nO;rw[bF,b6 _ _ (aqa U)];rcases de with z|z
  ·rw[z];exact E.ops b t x S U
  cases C:v'.ownBlock with
  |none=>exact .inl rfl
  |some g=>right;intro e;have :=aE t S g e.symm;have :=z g C;omega
 by_cases rN:t=a
 ·subst rN;rw[bF,b6 _ _ nO];rcases de with z|z
  ·rw[z];exact E.ops b t x S U
  cases C:(h b).ownBlock with
  |none=>exact .inl rfl
  |some g=>right;intro e;have :=aE b x g C;have :=z g e.symm;omega
 rw[b6 _ _ nO,b6 _ _ rN];exact E.ops b t x S U
def nn (l:List bE):Int:=l.foldl (fun m o=>if m<o.p.id.1 then o.p.id.1 else m) 0
theorem U2(h:a<r.length):nn (r.take (a+1))=if nn (r.take a)<r[a].p.id.1 then r[a].p.id.1 else nn (r.take a):=by
 unfold nn;rw[aqp h,ara];rfl
theorem U3(l:List bE)(h:∀o∈l,o.p.id.1<=1000000):∀k,k<=l.length->0<=nn (l.take k)/\nn (l.take k)<=1000000
 |0,_=>by simp[nn]
 |k+1,a=>by
  have :=U3 l h k (by omega);have :=h l[k] (ap6 _);rw[U2 (by omega)];omega
theorem iV{w:World}{base:Nat}{size:Nat}(h:w.ownsRow base y size c a C){g o:Nat}(b:c.ownBlock≠some g)(u:Value):(w.setCell (K g o) u).ownsRow base y size c a C:=by
 refine⟨h.1,?_⟩;rcases h.2 with j|⟨d,e,f,rfl,i,k,rest⟩
 ·simp_all
 exact .inr ⟨d,e,f,rfl,i,by rw[aqr _ _ _ _ (by intro y;exact b (congrArg some y))];omega,rest⟩
theorem U4{e:Option Nat}{base:Nat}{size:Nat}(h:b.ownsRow base y size c a C)(f:b.grownBy n e)(i:∀g,c.ownBlock=some g->some g≠e):n.ownsRow base y size c a C:=by
 refine⟨h.1,?_⟩;rcases h.2 with o|⟨d,j,k,rfl,l,m,rest⟩
 ·simp_all
 exact .inr ⟨d,j,k,rfl,l,by rw[f.block d (ap8.1 m).1 (i d rfl)];omega,rest⟩
theorem adG{i:Array Oper}{o:Oper}{a:Act}{d:Act->World->Prop}{Q:Exit->Act->World->Prop}{E:Prop}(k:o.guard=none)(s x:Operand)(m:o.op=.call {callee:=.builtin .append,args:= #[s,x],argTypes:= #[255,255]})(v:Value)(l:List bE)(n:a.eval s=v)(p:b.ownsRow 0 233 15 v l.length (l.flatMap lR))(g c:Nat)(y:bE)(q:a.eval x=.slice (some (H g)) 1 c)(r:∀j u,(lR y)[j]?=some u->b.cell? (K g j)=some u)(t:∀u∈lR y,u.oneCell'=true)(w:l.length<100000)(h:∀e f,f.ownsRow 0 233 15 e (l.length+1) ((l++[y]).flatMap lR)->b.grownBy f v.ownBlock->iR b v e->d (a.put o.dst e) f):
  if Region.wanted o (yielded i a.tmps)=true then Oper.wp prog o a b d Q else E:=
 xO lR 15 144 255 233 (.agg #[A 0,A 0,A 0,.bool false,A 0,A 0,.string ⟨#[]⟩,A 0,A 0,A 0,A 0,A 0,A 0,A 0,.slice none 0 0]) (by kernel_rfl) underlying255 rfl (by omega) (fun _=>rfl)
  k s x m 0 v l n p g c y q r t (by omega) (by unfold maxLen;omega) (apZ _) h
theorem e8.adH(g:e8 b s d (.slice (some (H l)) d z) c e h i f j)(k:a<d):b.cell? (K l a)=some (h a):=by
 rw[g.hI.cellAt a (by omega)];simp[k]
theorem e8.adI{m}(g:e8 b s d e (.slice (some (H l)) d z) c h i m j)(n:a<d):b.cell? (K l (a*4))=some (m a 0):=by
 have :=ir (f:=fun a=>[m a 0,m a 1,m a 2,m a 3]) (k:=4) (fun _=>rfl) g.fF (by simp) a (by simp_all) 0 (by omega)
 simp_all
theorem e8.adJ(g:e8 b z a k c e h i f j)(n:d<a)(m:f d 0=.slice (some (H s)) a F)(o:l<a):b.cell? (K s l)=some (A (j d l)):=by
 have :=g.hH d n;rw[m]at this;rw[this.cellAt l (by omega)];simp[o]
theorem adK{o:bE}:∀j u,(lR o)[j]?=some u->(b.alloc (.cells #[A o.p.id.1,A o.p.id.2,A o.p.kind,.bool o.p.list,A o.p.object.1,A o.p.object.2,.string o.p.key,A o.p.element.1,A o.p.element.2,A o.p.behind.1,A o.p.behind.2,A o.p.num,A o.p.obj.1,A o.p.obj.2,o.du] 233)).cell? (V b j)=some u:=by
 intro j u a;rw[asm _ _ _ _ rfl,<-a];simp[lR]
def adL (e:World) (o:bE) (d:Value) (l:List bE) (f c:Nat) (wc:World):Prop:=
 ∃W a b,J e W/\W.grownBy a d.ownBlock/\iR W d b/\a.ownsRow 0 233 15 b (l.length+1) ((l++[o]).flatMap lR)/\wc=a.setCell (K f c) b
theorem U5(f:J b n)(h:n.grownBy q c.ownBlock)(g:a<b.heap.size)(i:a≠d)(j:some a≠c.ownBlock):(q.setCell (K d l) e).heap[a]?=b.heap[a]?:=by
 rw[aqr _ _ _ _ i,h.block a (ap3 g f.size) j,f.block a g]
theorem Db{v':Value}{gO c:Nat}(g:J b n)(h:n.grownBy q e.ownBlock)(f:b.cell? (K d l)=some k)(i:d≠gO)(j:some d≠e.ownBlock):(q.setCell (K gO c) v').cell? (K d l)=some k:=by
 rw[aq0 (w:=b) (a:=(K d l)) (U5 g h (aqd b _ f) i j)];exact f
theorem U6{v':Value}{gO c:Nat}(f:J b n)(g:n.grownBy q e.ownBlock)(h:d<b.heap.size)(i:b.frozen? (K d l)=false)(j:d≠gO)(k:some d≠e.ownBlock):(q.setCell (K gO c) v').frozen? (K d l)=false:=by
 rw[ass (w:=b) (a:=(K d l)) (U5 f g h j k)];exact i
theorem adM{v'}{W:World}{gO gH:Nat}{u0 u1:Value}{o:bE}(r:e8 b s l (.slice (some (H gO)) l z) c e h i f j)(av:Apart l h f)(I:a<l)(D:f a 0=.slice (some (H gH)) l F)(X:J b q)(fj:J q W)(y:W.grownBy n (h a).ownBlock)(oV:iR W (h a) v')(R:n.ownsRow 0 233 15 v' ((i a).length+1) ((i a++[o]).flatMap lR))(Y:eE b o.du o.p.old)(ab:b.heap.size<=d)(Lf:v'.ownBlock≠some d)(A3:(i a).length<60)(oU:j a a=(i a).length):
  iR b (h a) v'/\e8 ((((n.setCell (K gO a) v').setCell (K gH a) (A ((j a a:Int)+1))).setCell (H d) u0).setCell (K d 1) u1) s l (.slice (some (H gO)) l z) c e (upd h a v') (upd i a (i a++[o])) f (fun u t=>if u=a/\t=a then j a a+1 else j u t)/\
   Apart l (upd h a v') f/\n.os=b.os/\n.tape=b.tape/\n.output=b.output/\b.heap.size<=n.heap.size/\
   (∀k,k<b.heap.size->k≠gO->k≠gH->some k≠(h a).ownBlock->((((n.setCell (K gO a) v').setCell (K gH a) (A ((j a a:Int)+1))).setCell (H d) u0).setCell (K d 1) u1).heap[k]?=b.heap[k]?):=by
 have x:=X.trans (fj.mono X.size);obtain⟨apm,B⟩:=bq r.hI (g:=gO) rfl;obtain⟨OY,C⟩:=bq (r.hH a I) (g:=gH) (by rw[D];rfl);have U7:=(ap8.1 B).1;have U8:=(ap8.1 C).1;have OZ:gO≠gH:=by intro m;subst m;exact absurd (bK B C) (by decide)
 have E:∀(g:Nat) (N:Array Value) (m:TypeId) (v:Nat×Nat),b.heap[g]?=some (.cells N m v)->m≠233->some g≠(h a).ownBlock:=fun g N m v w he e'=>by
  obtain⟨Lg,zi⟩:=bq (r.eu a I).1 e'.symm;exact he (bK w zi)
 have P:∀k,k<b.heap.size->k≠gO->k≠gH->some k≠(h a).ownBlock->((((n.setCell (K gO a) v').setCell (K gH a) (A ((j a a:Int)+1))).setCell (H d) u0).setCell (K d 1) u1).heap[k]?=b.heap[k]?:=by
  intro k S Q U al;rw[aqr _ _ _ _ (by show k≠d;omega),aqr _ _ _ _ (by show k≠d;omega),aqr _ _ _ _ U,aqr _ _ _ _ Q,y.block k (by have :=x.size;omega) al,x.block k S]
 have de:iR b (h a) v':=by
  rcases oV with L|L
  ·exact .inl L
  exact .inr fun k S=>by have :=L k S;have :=x.size;omega
 have hbv:=fun g w=>(ap1 (r.eu a I).1 g w).2
 have O0:v'.ownBlock≠some gO:=by
  intro m;obtain⟨N,M⟩:=bq R m;rw[y.block gO (by have :=x.size;omega) (E gO _ _ _ B (by decide)),x.block gO U7]at M;exact absurd (bK B M) (by decide)
 have A4:v'.ownBlock≠some gH:=by
  intro m;obtain⟨N,M⟩:=bq R m;rw[y.block gH (by have :=x.size;omega) (E gH _ _ _ C (by decide)),x.block gH U8]at M;exact absurd (bK C M) (by decide)
 have A5:=U4 (c7 r.hI x) y (fun g w=>by
  have m:g=gO:=by simp[Value.ownBlock]at w;omega
  rw[m];exact E gO _ _ _ B (by decide))
 have hH3:=U4 (c7 (r.hH a I) x) y (fun g w=>by
  have m:g=gH:=by rw[D]at w;simp[Value.ownBlock]at w;omega
  rw[m];exact E gH _ _ _ C (by decide))
 have key:=e8.add (W:=(((n.setCell (K gO a) v').setCell (K gH a) (A ((j a a:Int)+1))).setCell (H d) u0).setCell (K d 1) u1) (gO:=gO) (gH:=gH) (v':=v') (o:=o) r av I rfl (by rw[D];rfl) ?_ ?_ ?_ ?_ ?_ P de A3 oU
 ·exact⟨de,key.1,key.2,y.os.trans x.os,y.tape.trans x.tape,y.output.trans x.output,by have :=y.size;have :=x.size;omega,P⟩
 ·refine iV (iV (iV (asr A5 a v').1 ?_ _) ?_ _) ?_ _<;>(intro m;simp[Value.ownBlock]at m;omega)
 ·have Q:=iV (o:=a) hH3 (g:=gO) (by rw[D];intro m;simp[Value.ownBlock]at m;omega) v';have U:((n.setCell (K gO a) v').setCell (K gH a) (A ((j a a:Int)+1))).ownsRow 0 3 1 (f a 0) l (((List.range l).map fun t=>A (j a t)).set a (A ((j a a:Int)+1))):=by
   rw[D]at Q⊢;exact(asr Q a _).1
  refine iV (iV U ?_ _) ?_ _<;>(rw[D];intro m;simp[Value.ownBlock]at m;omega)
 ·exact iV (iV (iV (iV R O0 _) A4 _) Lf _) Lf _
 ·refine⟨Y.1,?_⟩;rcases Y.2 with L|⟨g,cap,cur,aj,dp,w,rest⟩
  ·exact .inl L
  refine .inr ⟨g,cap,cur,aj,dp,?_,rest⟩;rw[P g (ap8.1 w).1 (by intro m;subst m;exact absurd (bK w B) (by decide)) (by intro m;subst m;exact absurd (bK w C) (by decide)) (E g _ _ _ w (by decide))];exact w
 intro g cur w;exact P g (ap8.1 w).1 (by intro m;subst m;exact absurd (bK w B) (by decide)) (by intro m;subst m;exact absurd (bK w C) (by decide)) (E g _ _ _ w (by decide))
theorem adN(h:e8 b l d e k D w i f j)(av:Apart d w f)(c:Nat)(F:c<d)(A3:(i c).length<60)(oU:j c c=(i c).length)(wF:∀o∈iU i (j c) d,o.p.id.1<=1000000)(i1 i2 kind X Y aj aw eT eG n v1 v2:Int)(aQ:Bool)(key:ByteArray)(du:Value)(R:List PId)(hold:eE b du R):
  O 145 #[Z l,A c,.agg #[A i1,A i2,A kind,.bool aQ,A X,A Y,.string key,A aj,A aw,A eT,A eG,A n,A v1,A v2,du]] b fun r w'=>
   r=.returned (.agg #[A (nn (iU i (j c) d)+1),A c])/\∃v',iR b (w c) v'/\
    e8 w' l d e k D (upd w c v') (upd i c (i c++[⟨⟨(nn (iU i (j c) d)+1,c),kind,aQ,(X,Y),key,(aj,aw),(eT,eG),n,(v1,v2),R⟩,du⟩])) f (fun x t=>if x=c/\t=c then j c c+1 else j x t)/\
    Apart d (upd w c v') f/\w'.os=b.os/\w'.tape=b.tape/\w'.output=b.output/\b.heap.size<=w'.heap.size/\
    (∀q,q<b.heap.size->some q≠e.ownBlock->some q≠(f c 0).ownBlock->some q≠(w c).ownBlock->w'.heap[q]?=b.heap[q]?):=by
 obtain⟨gO,qW,db,eY,rfl,rfl,Fg,Fh,K2,K3⟩:=h.row (by omega);obtain⟨P,nm,fb,Fi,K4⟩:=h.C3 F;obtain⟨ju,co,rfl,_,_,_⟩:=bm hold;have hN:=h.hN;have U9:=K1 i (j c) d (fun t hi=>h.hsz t hi);have S:=aa h;clear h;have bY:=aa av;clear av;have tO:=aa hold;clear hold;clear K2 K3 K4;have zj:=aa fb;clear fb;have adO:=aa oU;clear oU;have qk:=aa (U3 (iU i (j c) d) wF);clear wF;generalize Va:iU i (j c) d=Dc at *;have sL:=aa Va;clear Va;generalize Vb:nn Dc=Dd;have Vc:=aa Vb;clear Vb;go_enter func145,ntmps145;go_wp2_with fail
 have a7:Hq (J b ((b.alloc (.cells #[A i1,A i2,A kind,.bool aQ,A X,A Y,.string key,A aj,A aw,A eT,A eG,A n,A v1,A v2,.slice ju R.length co] 233)).alloc (.cells #[A 0,A 0] 36))):=((apY _ b).alloc (apX _) _).alloc (by simp) _;refine(Un (S.o.ae a7.o) c F).mono ?_;rintro r w1 ⟨v,rfl,eu,B⟩;rw[sL.o]at eu;have M:=ae (a:=(V b 0)) (v:=A i1) B (by simp[go_sem]);have N:=ae (a:=(V b 1)) (v:=A i2) B (by simp[go_sem]);have k3:=ae (a:=(V b 2)) (v:=A kind) B (by simp[go_sem]);have np:=ae (a:=(V b 3)) (v:=.bool aQ) B (by simp[go_sem]);have rR:=ae (a:=(V b 4)) (v:=A X) B (by simp[go_sem]);have Lh:=ae (a:=(V b 5)) (v:=A Y) B (by simp[go_sem]);have CZ:=ae (a:=(V b 6)) (v:=.string key) B (by simp[go_sem]);have Li:=ae (a:=(V b 7)) (v:=A aj) B (by simp[go_sem]);have Lj:=ae (a:=(V b 8)) (v:=A aw) B (by simp[go_sem]);have Lk:=ae (a:=(V b 9)) (v:=A eT) B (by simp[go_sem]);have Ll:=ae (a:=(V b 10)) (v:=A eG) B (by simp[go_sem]);have E5:=ae (a:=(V b 11)) (v:=A n) B (by simp[go_sem]);have E6:=ae (a:=(V b 12)) (v:=A v1) B (by simp[go_sem]);have E7:=ae (a:=(V b 13)) (v:=A v2) B (by simp[go_sem]);have xL:=ae (a:=(V b 14)) (v:=.slice ju R.length co) B (by simp[go_sem]);have z0:=ae (a:=(H (b.heap.size+1))) (v:=A 0) B (by simp[go_sem]);have z1:=ae (a:=(K (b.heap.size+1) 1)) (v:=A 0) B (by simp[go_sem]);have fz0:∀s,w1.frozen? (V b s)=false:=fun s=>by rw[B.frozen (p:=(V b s)) (by simp;omega)];simp[go_sem]
 have Vd:∀s,w1.frozen? (K (b.heap.size+1) s)=false:=fun s=>by rw[B.frozen (p:=(K (b.heap.size+1) s)) (by simp)];simp[go_sem]
 have hz1:b.heap.size+2<=w1.heap.size:=by have :=B.size;simp at this;omega
 have mn:J b w1:=a7.o.trans (B.mono (by simp;omega));have dv:=aa mn;clear mn B a7;obtain⟨aX,lc,rfl,jq,A6,Fo⟩:=bm eu.1;unfold maxLen at A6;have OL:=aa eu;clear eu;have wG:=aa Fo;clear Fo;go_wp2;go_loop [8,9] (fun m t=>∃q:Nat,q<=Dc.length/\t=A q/\m=A (nn (Dc.take q))) (fun _ t=>Dc.length-(intOf t).toNat)
 case atStart=>exact⟨0,apZ _,rfl,rfl⟩
 case round=>
  obtain⟨q,hk,rfl,rfl⟩:=hrel;by_cases aE:q<Dc.length
  ·obtain⟨g,rfl⟩:=wG.o q aE;have gW:=kx.cell OL.o rfl q aE 0 (by omega);simp only[lR,ard,aqW]at gW;have Ve:=aa (U2 aE);by_cases ly:nn (Dc.take q)<Dc[q].p.id.1
   ·go_wp2;go_round
    case rel=>exact⟨q+1,by omega,by go_num,by rw[Ve.o,if_pos ly]⟩
    case measure=>simp[intOf];omega
   go_wp2;go_round
   case rel=>exact⟨q+1,by omega,by go_num,by rw[Ve.o,if_neg ly]⟩
   case measure=>simp[intOf];omega
  have Hz:=qk.o q hk;rw[aql (by omega)]at Hz;rw[aql (by omega)];rw[Vc.o]at Hz;rw[Vc.o];go_wp2;obtain⟨z,C⟩:∃z,z=(w1.setCell (V b 0) (A (Dd+1))).setCell (V b 1) (A c):=⟨_,rfl⟩;rw[<-C];have jx:z.cell? (V b 0)=some (A (Dd+1)):=by rw[C];simp[go_sem,M,M,N]
  have q1:z.cell? (V b 1)=some (A c):=by rw[C];simp[go_sem,N,M,N]
  have j1:z.cell? (V b 2)=some (A kind):=by rw[C];simp[go_sem,k3,M,N]
  have xQ:z.cell? (V b 3)=some (.bool aQ):=by rw[C];simp[go_sem,np,M,N]
  have HA:z.cell? (V b 4)=some (A X):=by rw[C];simp[go_sem,rR,M,N]
  have sN:z.cell? (V b 5)=some (A Y):=by rw[C];simp[go_sem,Lh,M,N]
  have Vf:z.cell? (V b 6)=some (.string key):=by rw[C];simp[go_sem,CZ,M,N]
  have Vg:z.cell? (V b 7)=some (A aj):=by rw[C];simp[go_sem,Li,M,N]
  have Vh:z.cell? (V b 8)=some (A aw):=by rw[C];simp[go_sem,Lj,M,N]
  have Vi:z.cell? (V b 9)=some (A eT):=by rw[C];simp[go_sem,Lk,M,N]
  have Vj:z.cell? (V b 10)=some (A eG):=by rw[C];simp[go_sem,Ll,M,N]
  have Vk:z.cell? (V b 11)=some (A n):=by rw[C];simp[go_sem,E5,M,N]
  have Vl:z.cell? (V b 12)=some (A v1):=by rw[C];simp[go_sem,E6,M,N]
  have Vm:z.cell? (V b 13)=some (A v2):=by rw[C];simp[go_sem,E7,M,N]
  have Vn:z.cell? (V b 14)=some (.slice ju R.length co):=by rw[C];simp[go_sem,xL,M,N]
  have y0:z.cell? (H (b.heap.size+1))=some (A 0):=by rw[C];simp[go_sem,z0]
  have y1:z.cell? (K (b.heap.size+1) 1)=some (A 0):=by rw[C];simp[go_sem,z1]
  have nQ:∀s,z.frozen? (K (b.heap.size+1) s)=false:=fun s=>by rw[C];simp[go_sem,Vd]
  have aY:J b z:=by rw[C];exact(dv.o.setCell (apX _) _).setCell (apX _) _
  have hz2:b.heap.size+2<=z.heap.size:=by rw[C];simpa[World.setCell]using hz1
  clear C M N k3 np rR Lh CZ Li Lj Lk Ll E5 E6 E7 xL z0 z1 fz0 Vd;have E:=aa (S.o.ae aY);have a6:=E.o.a6;have bc:=E.o.bc;have O1:=E.o.adH F;have O2:=E.o.adI F;have Lm:=E.o.adJ F zj.o F;rw[zj.o]at O2;obtain⟨bV,bQ,wH,_,_,_⟩:=bm (E.o.eu c F).1;rw[wH]at O1;have Vo:=aa wH;clear wH;have pJ:l<b.heap.size:=(ap8.1 S.o.aH).1;have U7:gO<b.heap.size:=(ap1 S.o.hI gO rfl).2;have O3:db<b.heap.size:=(ap1 S.o.fF db rfl).2;have U8:P<b.heap.size:=(ap1 (S.o.hH c F) P (by rw[zj.o];rfl)).2;obtain⟨apm,tU⟩:=bq E.o.hI (g:=gO) rfl;obtain⟨apM,Ln⟩:=bq E.o.fF (g:=db) rfl;obtain⟨OY,tV⟩:=bq (E.o.hH c F) (g:=P) (by rw[zj.o];rfl);have hOr:gO≠l:=by intro r;subst r;exact absurd (bK tU E.o.aH) (by decide)
  have hOC:gO≠db:=by intro r;subst r;exact absurd (bK tU Ln) (by decide)
  have OZ:gO≠P:=by intro r;subst r;exact absurd (bK tU tV) (by decide)
  have hHr:P≠l:=by intro r;subst r;exact absurd (bK tV E.o.aH) (by decide)
  have hHC:P≠db:=by intro r;subst r;exact absurd (bK tV Ln) (by decide)
  have HB:Hq (∀(g:Nat) (cs:Array Value) (r:TypeId) (y:Nat×Nat),z.heap[g]?=some (.cells cs r y)->r≠233->some g≠(w c).ownBlock):=fun g cs r y ag he e'=>by
   obtain⟨Lg,zi⟩:=bq (E.o.eu c F).1 e'.symm;exact he (bK ag zi)
  have tT:=aa (And.intro tU (And.intro Ln tV));clear tU Ln tV;have bd:=aa aY;clear aY;have ql:=E.o.hle c c F F;have hsz:=E.o.hsz c F;have rS:z.frozen? (K gO c)=false:=ase E.o.hI c;have q3:z.frozen? (K P c)=false:=by have :=E.o.hH c F;rw[zj.o]at this;exact ase this c
  have an0:gO<z.heap.size:=by omega
  have adP:l<z.heap.size:=by omega
  have adQ:b.heap.size<z.heap.size:=by omega
  have Vp:=aa (HB.o gO _ _ _ tT.o.1 (by decide));have oW:=aa (HB.o l _ _ _ E.o.aH (by decide));go_cut [52] (fun _ wc=>adL z ⟨⟨(Dd+1,c),kind,aQ,(X,Y),key,(aj,aw),(eT,eG),n,(v1,v2),R⟩,.slice ju R.length co⟩ (w c) (i c) gO c wc)
  case first =>
   go_region_law (refine adG rfl (.tmp 49) (.tmp 51) rfl (.slice bV (i c).length bQ) (i c) (by simp[Act.eval,Act.put]) ?h1 z.heap.size 1 ⟨⟨(Dd+1,c),kind,aQ,(X,Y),key,(aj,aw),(eT,eG),n,(v1,v2),R⟩,.slice ju R.length co⟩ (by simp[Act.eval,Act.put]) ?h2 ?al ?aL ?_;(case h1=>rw[<-Vo.o];exact(E.o.eu c F).1.alloc _);(case h2=>exact adK);(case al=>exact fun u hu=>by simp[lR]at hu;rcases hu with rfl|rfl|rfl|rfl|rfl|rfl|rfl|rfl|rfl|rfl|rfl|rfl|rfl|rfl|rfl<;>rfl);(case aL=>omega);intro v' U gi I oV;rw[<-Vo.o]at I oV;have L:J z (z.alloc (.cells #[A (Dd+1),A c,A kind,.bool aQ,A X,A Y,.string key,A aj,A aw,A eT,A eG,A n,A v1,A v2,.slice ju R.length co] 233)).drew:=((apY _ z).alloc (apX _) _).drew;have hU:=aa (And.intro L (And.intro I (And.intro oV gi)));obtain⟨a3,bZ,iD,_,_,_⟩:=bm gi;subst iD;have kO':U.cell? (K gO c)=some (.slice bV (i c).length bQ):=I.cell (ae L O1) Vp.o;have fO':U.frozen? (K gO c)=false:=(ass (a:=(K gO c)) (I.block gO (by have :=L.size;omega) Vp.o)).trans ((L.frozen (p:=(K gO c)) (by show gO<_;omega)).trans rS);have Lo:U.cell? (K l 1)=some (.slice (some (H gO)) d qW):=I.cell (ae L a6) oW.o;clear oV gi L I)
   all_goals(go_wp2_with fail;go_meet)
   all_goals exact⟨_,U,_,hU.o.1,hU.o.2.1,hU.o.2.2.1,hU.o.2.2.2,rfl⟩
  case rest=>
   obtain⟨W,U,v',L,I,oV,gi,Q⟩:=hcut;have HNr:=aa (HB.o l _ _ _ E.o.aH (by decide));have O4:=aa (HB.o db _ _ _ tT.o.2.1 (by decide));have Lp:=aa (HB.o P _ _ _ tT.o.2.2 (by decide));have tW:∀g,(w c).ownBlock=some g->g<b.heap.size:=fun g ag=>(ap1 (S.o.eu c F).1 g ag).2
   have pK:=aa (show ∀q,b.heap.size<=q->some q≠(w c).ownBlock from fun q hk r=>by have :=tW q r.symm;omega);have d2:=Db (c:=c) (v':=v') (gO:=gO) L I bc hOr.symm HNr.o;rw[<-Q]at d2;have apn:=Db (c:=c) (v':=v') (gO:=gO) L I O2 hOC.symm O4.o;rw[<-Q]at apn;have apo:=Db (c:=c) (v':=v') (gO:=gO) L I Lm OZ.symm Lp.o;rw[<-Q]at apo;have apN:wc.frozen? (K P c)=false:=by rw[Q];exact U6 L I (by omega) q3 OZ.symm Lp.o
   have t0:=Db (c:=c) (v':=v') (gO:=gO) L I jx (by omega) (pK.o _ (by omega));rw[<-Q]at t0;have t1:=Db (c:=c) (v':=v') (gO:=gO) L I q1 (by omega) (pK.o _ (by omega));rw[<-Q]at t1;have x0:=Db (c:=c) (v':=v') (gO:=gO) L I y0 (by omega) (pK.o _ (by omega));rw[<-Q]at x0;have x1:=Db (c:=c) (v':=v') (gO:=gO) L I y1 (by omega) (pK.o _ (by omega));rw[<-Q]at x1;have apO:∀s,wc.frozen? (K (b.heap.size+1) s)=false:=fun s=>by rw[Q];exact U6 L I (by omega) (nQ s) (by omega) (pK.o _ (by omega))
   have bJ:=aa (And.intro L (And.intro I (And.intro oV (And.intro gi Q))));clear L I oV gi Q tW;clear a6 bc O1 O2 Lm jx q1 j1 xQ HA sN Vf Vg Vh Vi Vj Vk Vl Vm Vn y0 y1 nQ rS q3;have E9:P≠b.heap.size:=by omega
   have adR:P≠b.heap.size+1:=by omega
   have HBO:=aa (show v'.ownBlock≠some (b.heap.size+1) from fun r=>by
    rcases bJ.o.2.2.1 with hn|hn
    ·have :=(ap1 (S.o.eu c F).1 (b.heap.size+1) (by rw[<-hn];exact r)).2;omega
    have :=hn _ r;have :=bJ.o.1.size;omega)
   go_wp2;have u9:=adM (u0:=A (Dd+1)) (u1:=A c) S.o bY.o F zj.o bd.o bJ.o.1 bJ.o.2.1 bJ.o.2.2.1 bJ.o.2.2.2.1 tO.o (aqy _) HBO.o A3 adO.o;rw[<-bJ.o.2.2.2.2]at u9;have AU:wc.os=U.os/\wc.tape=U.tape/\wc.output=U.output/\wc.heap.size=U.heap.size:=by rw[bJ.o.2.2.2.2];simp[World.setCell]
   refine bodyPost_ret (v:=.agg #[A (Dd+1),A c]) (by simp[results,results145,go_sem,x0,x1]) rfl ⟨rfl,v',u9.1,u9.2.1,u9.2.2.1,?_,?_,?_,?_,?_⟩
   ·exact AU.1.trans u9.2.2.2.1
   ·exact AU.2.1.trans u9.2.2.2.2.1
   ·exact AU.2.2.1.trans u9.2.2.2.2.2.1
   ·have :=u9.2.2.2.2.2.2.1;have :=AU.2.2.2;simp[World.setCell];omega
   intro q hk h1 h2 al;refine u9.2.2.2.2.2.2.2 q hk ?_ ?_ al
   ·intro r;exact h1 (by rw[r];rfl)
   intro r;exact h2 (by rw[r,zj.o];rfl)
structure HC (w w':World) (r N:Nat) (aS aJ aU:Value) (aW:Nat->Value) (cops:Nat->List bE) (cp:Nat->Nat->Value) (has:Nat->Nat->Nat) (c:Nat) (o:bE) (v':Value):Prop where
 new:iR w (aW c) v'
 room:e8 w' r N aS aJ aU (upd aW c v') (upd cops c (cops c++[o])) cp (fun d i=>if d=c/\i=c then has c c+1 else has d i)
 apart:Apart N (upd aW c v') cp
 os:w'.os=w.os
 tape:w'.tape=w.tape
 output:w'.output=w.output
 size:w.heap.size<=w'.heap.size
 other:∀k,k<w.heap.size->some k≠aS.ownBlock->some k≠(cp c 0).ownBlock->some k≠(aW c).ownBlock->w'.heap[k]?=w.heap[k]?
structure mo (w:World) (r N:Nat) (aS aJ aU:Value) (aW:Nat->Value) (cops:Nat->List bE) (cp:Nat->Nat->Value) (has:Nat->Nat->Nat) (c:Nat) (S:List bH):Prop extends Shown w r N aS aJ aU aW cops cp has c S where
 apart:Apart N aW cp
 all:has c c=(cops c).length
 cnt:∀o∈iU cops (has c) N,o.p.id.1<=1000000
theorem mo.j3(g:mo b a d c e k h i f j l m)(o:J b n):mo n a d c e k h i f j l m:=
 {g.toShown.ae o with apart:=g.apart,all:=g.all,cnt:=g.cnt}
theorem adS(g:mo b l d c e k h i f j a m)(F:(i a).length<60)(D E kind q r s t u v n w x:Int)(y:Bool)(z:ByteArray)(p:Value)(B:List PId)(I:eE b p B):
  O 145 #[Z l,A a,.agg #[A D,A E,A kind,.bool y,A q,A r,.string z,A s,A t,A u,A v,A n,A w,A x,p]] b fun o L=>
   o=.returned (.agg #[A (nn (iU i (j a) d)+1),A a])/\∃C,HC b L l d c e k h i f j a ⟨⟨(nn (iU i (j a) d)+1,a),kind,y,(q,r),z,(s,t),(u,v),n,(w,x),B⟩,p⟩ C:=
 (adN g.room g.apart a g.hc F g.all g.cnt D E kind q r s t u v n w x y z p B I).mono fun _ _ ⟨M,C,N,P,Q,R,S,U,W,X⟩=>⟨M,C,N,P,Q,R,S,U,W,X⟩
theorem adT{cops:Nat->List bE}{has F:Nat->Nat}{N:Nat}(d:a<N)(f:has a=(cops a).length)(g:F a=has a+1)(hF:∀i,i≠a->F i=has i)(o:bE):
  (iU (upd cops a (cops a++[o])) F N).Perm (iU cops has N++[o]):=by
 have h:∀k,k<=N->(iU (upd cops a (cops a++[o])) F k).Perm (iU cops has k++if a<k then[o] else[]):=by
  intro k
  induction k with
  |zero=>intro _;simp[iU]
  |succ k ih=>
   intro j;rw[K0,K0];have b:=ih (by omega);by_cases e:k=a
   ·subst e;rw[if_neg (by omega),aqB]at b;rw[if_pos (by omega),bF,g,f];rw[aql (by simp),aql (apX _),aqs];exact b.append_right _
   rw[b6 _ _ e,hF k e];by_cases c:a<k
   ·rw[if_pos c]at b;rw[if_pos (by omega)];refine(b.append_right _).trans ?_;rw[aqs,aqs];exact asx _ asy
   rw[if_neg c,aqB]at b;rw[if_neg (by omega),aqB];exact b.append_right _
 have :=h N (apX _);rwa [if_pos d]at this
theorem adU(l:List bE):∀o∈l,o.p.id.1<=nn l:=by
 have b:∀(l:List bE) (m:Int),m<=l.foldl (fun m o=>if m<o.p.id.1 then o.p.id.1 else m) m/\∀o∈l,o.p.id.1<=l.foldl (fun m o=>if m<o.p.id.1 then o.p.id.1 else m) m:=by
  intro l
  induction l with
  |nil=>intro m;simp
  |cons x l ih=>
   intro m;have h:=ih (if m<x.p.id.1 then x.p.id.1 else m);rw[arE];refine⟨aro ?_ h.1,fun o a=> ?_⟩
   ·split <;>omega
   rcases aqb.1 a with rfl|a
   ·refine aro ?_ h.1;split <;>omega
   exact h.2 o a
 exact(b l 0).2
theorem HC.next{w' N cops has o}(g:mo b l N c e k h cops f has d m)(s:HC b w' l N c e k h cops f has d o D)(t:o.p.id=(nn (iU cops (has d) N)+1,(d:Int)))(E:nn (iU cops (has d) N)<1000000):
  mo w' l N c e k (upd h d D) (upd cops d (cops d++[o])) f (fun j i=>if j=d/\i=d then has d d+1 else has j i) d (m++[o.p]):=by
 have u:=adT (cops:=cops) (has:=has d) (F:=fun i=>if d=d/\i=d then has d d+1 else has d i) (N:=N) g.hc g.all (by simp) (fun i w=>by simp[w]) o;have y:∀x∈iU (upd cops d (cops d++[o])) (fun i=>if d=d/\i=d then has d d+1 else has d i) N,x∈iU cops (has d) N\/x=o:=fun x q=>by
  have :=u.mem_iff.1 q;rcases ap7.1 this with r|r
  ·exact .inl r
  exact .inr (by simpa using r)
 have z:∀p∈m,p.id.1<=nn (iU cops (has d) N):=fun p B=>by
  obtain⟨x,q,rfl⟩:=ap5.1 (g.perm.mem_iff.1 B);exact adU _ x q
 refine{room:=s.room,hc:=g.hc,perm:= ?_,sort:= ?_,apart:=s.apart,all:= ?_,cnt:= ?_}
 ·refine(g.perm.append_right [o.p]).trans ?_;rw[show(iU cops (has d) N).map bE.p++[o.p]=(iU cops (has d) N++[o]).map bE.p by simp];exact(u.map _).symm
 ·unfold xS;rw[arc];refine⟨g.sort,by simp,fun a C n v=> ?_⟩;simp at v;subst v;have :=z a C;rw[t];simp[rM];omega
 ·simp[bF,g.all]
 intro x q;rcases y x q with r|rfl
 ·exact g.cnt x r
 rw[t];show nn (iU cops (has d) N)+1<=1000000;omega
def bX (S:List bH):Int:=S.foldl (fun m p=>if m<p.id.1 then p.id.1 else m) 0
theorem adV(l:List bE):nn l=bX (l.map bE.p):=by
 unfold nn bX;rw[List.foldl_map]
theorem HD(S:List bH):0<=bX S/\(∀p∈S,p.id.1<=bX S)/\(bX S=0\/∃p∈S,p.id.1=bX S):=by
 have d:∀(S:List bH) (m:Int),m<=S.foldl (fun m p=>if m<p.id.1 then p.id.1 else m) m/\(∀p∈S,p.id.1<=S.foldl (fun m p=>if m<p.id.1 then p.id.1 else m) m)/\
   (S.foldl (fun m p=>if m<p.id.1 then p.id.1 else m) m=m\/∃p∈S,p.id.1=S.foldl (fun m p=>if m<p.id.1 then p.id.1 else m) m):=by
  intro S
  induction S with
  |nil=>intro m;simp
  |cons x S ih=>
   intro m;obtain⟨c,e,a⟩:=ih (if m<x.id.1 then x.id.1 else m);rw[arE];refine⟨aro ?_ c,fun p b=> ?_,?_⟩
   ·split <;>omega
   ·rcases aqb.1 b with rfl|b
    ·refine aro ?_ c;split <;>omega
    exact e p b
   rcases a with a|⟨p,b,a⟩
   ·rw[a];split
    ·exact .inr ⟨x,aqf,rfl⟩
    exact .inl rfl
   exact .inr ⟨p,aqh _ b,a⟩
 exact d S 0
theorem adW{a:List bH}(h:m.Perm a):bX m=bX a:=by
 obtain⟨g,e,b⟩:=HD m;obtain⟨i,f,c⟩:=HD a;refine Int.le_antisymm ?_ ?_
 ·rcases b with b|⟨p,d,b⟩
  ·omega
  rw[<-b];exact f p (h.mem_iff.1 d)
 rcases c with c|⟨p,d,c⟩
 ·omega
 rw[<-c];exact e p (h.mem_iff.2 d)
theorem HE(S:List bH)(o:bH)(h:o.id.1=bX S+1):bX (S++[o])=bX S+1:=by
 show(S++[o]).foldl (fun m p=>if m<p.id.1 then p.id.1 else m) 0=bX S+1;rw[ara];show(if bX S<o.id.1 then o.id.1 else bX S)=bX S+1;rw[h,if_pos (by omega)]
theorem Shown.top(g:Shown b l a c e k h i f j d m):nn (iU i (j d) a)=bX m:=by
 rw[adV];exact(adW g.perm).symm
structure gN (w w':World) (r N:Nat) (aS aJ aU:Value) (aW:Nat->Value) (cops:Nat->List bE) (cp:Nat->Nat->Value) (has:Nat->Nat->Nat) (c:Nat) (S:List bH) (l:List bE) (eh:Nat->Value) (ei:Nat->List bE) (has':Nat->Nat->Nat):Prop where
 wr:mo w' r N aS aJ aU eh ei cp has' c (S++l.map bE.p)
 ops:ei=upd cops c (cops c++l)
 ad:has'=fun d i=>if d=c/\i=c then has c c+l.length else has d i
 aC:∀i,i≠c->eh i=aW i
 new:iR w (aW c) (eh c)
 De:∀o∈l,∀k,o.du.ownBlock=some k->w.heap.size<=k
 os:w'.os=w.os
 tape:w'.tape=w.tape
 output:w'.output=w.output
 size:w.heap.size<=w'.heap.size
 other:∀k,k<w.heap.size->some k≠aS.ownBlock->some k≠(cp c 0).ownBlock->some k≠(aW c).ownBlock->w'.heap[k]?=w.heap[k]?
theorem gN.adX{o}(r:mo b d l c e k h i f j a m)(u:HC b q d l c e k h i f j a o D)(y:o.p.id=(bX m+1,(a:Int)))(z:bX m<1000000)(v:J n b)(B:∀g,o.du.ownBlock=some g->n.heap.size<=g):
  gN n q d l c e k h i f j a m [o] (upd h a D) (upd i a (i a++[o])) (fun t s=>if t=a/\s=a then j a a+1 else j t s):=
 {wr:=HC.next r u (by rw[r.toShown.top];exact y) (by rw[r.toShown.top];exact z)
  ops:=rfl
  ad:=rfl
  aC:=fun s C=>b6 _ _ C
  new:=by rw[bF];exact u.new.imp id fun E g w=>ap0 v.size (E g w)
  De:=fun M x g w=>by simp at x;subst x;exact B g w
  os:=u.os.trans v.os,tape:=u.tape.trans v.tape,output:=u.output.trans v.output,size:=ap0 v.size u.size
  other:=fun g w F I L=>by rw[u.other g (ap3 w v.size) F I L,v.block g w]}
theorem gN.trans{w s w' r N l m n t u v x y z cp has B C c S q D}(a:gN w s r N l m n t x cp has c S q u y B)(b:gN s w' r N l m n u y cp B c (S++q.map bE.p) D v z C):
  gN w w' r N l m n t x cp has c S (q++D) v z C:=by
 refine{wr:=by rw[aqi,<-aqs];exact b.wr,ops:= ?_,ad:= ?_,aC:=fun i E=>(b.aC i E).trans (a.aC i E),new:= ?_,De:= ?_,os:=b.os.trans a.os,tape:=b.tape.trans a.tape,output:=b.output.trans a.output,size:=ap0 a.size b.size,other:= ?_}
 ·rw[b.ops,a.ops];funext i;by_cases e:i=c
  ·subst e;simp[upd]
  simp[upd,e]
 ·rw[b.ad,a.ad];funext d i;by_cases e:d=c/\i=c
  ·simp only[e,and_self,if_true,ap4];omega
  simp only[e,if_false]
 ·rcases b.new with h|h
  ·rcases a.new with g|g
   ·exact .inl (h.trans g)
   exact .inr fun k f=>g k (by rw[<-h];exact f)
  exact .inr fun k f=>ap0 a.size (h k f)
 ·intro o j k f;rcases ap7.1 j with j|j
  ·exact a.De o j k f
  exact ap0 a.size (b.De o j k f)
 intro k f F I L;rw[b.other k (ap3 f a.size) F I ?_,a.other k f F I L];rcases a.new with g|g
 ·rw[g];exact L
 intro e;have :=g k e.symm;omega
theorem gN.after(s:J b n)(g:gN n q a d c e k h i f j l m r w u v):gN b q a d c e k h i f j l m r w u v:=
 {g with new:=g.new.imp id fun x p t=>ap0 s.size (x p t),De:=fun o y p t=>ap0 s.size (g.De o y p t),os:=g.os.trans s.os,tape:=g.tape.trans s.tape,output:=g.output.trans s.output,size:=ap0 s.size g.size,other:=fun p t z B C=>by rw[g.other p (ap3 t s.size) z B C,s.block p t]}
theorem gN.before{c}(g:gN b n a d e k D h i f j c m r w u v)(o:J n q):gN b q a d e k D h i f j c m r w u v:=
 {g with wr:=g.wr.j3 o,os:=o.os.trans g.os,tape:=o.tape.trans g.tape,output:=o.output.trans g.output,size:=ap0 g.size o.size,other:=fun l p s t x=>by rw[o.block l (ap3 p g.size),g.other l p s t x]}
theorem gN.typed(p:mo b l s c e k h i f j a m)(o:gN b n l s c e k h i f j a m r w u v){z:Array Value}{g:Nat×Nat}(q:b.heap[d]?=some (.cells z y g))(C:y≠255)(D:y≠3)(E:y≠233):n.heap[d]?=some (.cells z y g):=by
 rw[<-q];refine o.other d (ap8.1 q).1 ?_ ?_ ?_
 ·intro t;obtain⟨B,x⟩:=bq p.room.hI t.symm;exact C (bK q x)
 ·intro t;obtain⟨B,x⟩:=bq (p.room.hH a p.hc) t.symm;exact D (bK q x)
 intro t;obtain⟨B,x⟩:=bq (p.room.eu a p.hc).1 t.symm;exact E (bK q x)
theorem gN.row{w w' o p}(q:mo w a d c e k h i f j l m)(b:gN w w' a d c e k h i f j l m r o u p){base:Nat}{size:Nat}{v:Value}(n:w.ownsRow base y size v s C)(t:y≠255)(x:y≠3)(z:y≠233):w'.ownsRow base y size v s C:=by
 refine⟨n.1,?_⟩;rcases n.2 with B|⟨g,D,E,rfl,F,I,rest⟩
 ·exact .inl B
 exact .inr ⟨g,D,E,rfl,F,b.typed q I t x z,rest⟩
theorem gN.len{w' r N c d}(a:gN b w' r N e k D h i f j c m d w u v):(u c).length=(i c).length+d.length:=by
 rw[a.ops,bF,ap4]
theorem bl{w:World}{g:Nat}{a b:Value}{t:TypeId}{f:Nat×Nat}(h:w.heap[g]?=some (.cells #[a,b] t f)):w.cell? (H g)=some a/\w.cell? (K g 1)=some b:=by
 simp[World.cell?,h]
theorem cG{w:World}{g:Nat}{a:Array Value}(h:w.heap[g]?=some (.cells a y (0,0)))(j:Nat):w.frozen? (K g j)=false:=by
 simp[World.frozen?,h]
theorem aN{w:World}{g:Nat}{o:Obj}(h:w.heap[g]?=some o):g<w.heap.size:=(ap8.1 h).1
theorem mq{o o':Obj}(h:b.heap[a]?=some o):(b.alloc o').heap[a]?=some o:=by
 show(b.heap.push o')[a]?=some o;rw[<-h,Array.getElem?_push,if_neg (Nat.ne_of_lt (aN h))]
theorem bI(w:World)(o:Obj):(w.alloc o).heap[w.heap.size]?=some o:=by
 show(w.heap.push o)[w.heap.size]?=some o;rw[Array.getElem?_push,if_pos rfl]
theorem bj{w w':World}{g:Nat}{o:Obj}(h:w.heap[g]?=some o)(a:J w w'):w'.heap[g]?=some o:=by
 rw[a.block g (aN h)];exact h
theorem Fq(w:World):eE w (.slice none 0 0) []:=aqe _ _ _ _
theorem e8.cell{w has}(b:e8 w d a e k D h i f has){g:Nat}{cs:Array Value}(s:w.heap[g]?=some (.cells cs 36 (0,0)))(y:∀l,l<a->∀o∈i l,o.du.ownBlock≠some g)(j:Nat)(u:Value):e8 (w.setCell (K g j) u) d a e k D h i f has:=by
 have p:∀{base:Nat} {m:TypeId} {size:Nat} {v:Value} {n:Nat} {t:List Value},w.ownsRow base m size v n t->m≠36->v.ownBlock≠some g:=by
  intro base m size v n t q z B;obtain⟨E,C⟩:=bq q B;exact z (bK C s)
 refine⟨?_,b.hN,iV b.hI (p b.hI (by decide)) u,fun l r=>⟨iV (b.eu l r).1 (p (b.eu l r).1 (by decide)) u,fun o q=>iV ((b.eu l r).2 o q) (y l r o q) u⟩,iV b.fF (p b.fF (by decide)) u,
  fun c x=>iV (b.hH c x) (p (b.hH c x) (by decide)) u,b.hle,b.hsz⟩
 rw[aqr _ _ _ _ (by intro m;subst m;exact absurd (bK b.aH s) (by decide))];exact b.aH
theorem gN.cell{w d r N f m n p s b t q has v c S l}(z:mo w r N f m n p b q has c S)(h:gN w d r N f m n p b q has c S l s t v){g:Nat}{cs:Array Value}(B:d.heap[g]?=some (.cells cs 36 (0,0)))(M:w.heap.size<=g)(C:∀o∈l,o.du.ownBlock≠some g)(j:Nat)(u:Value):
  gN w (d.setCell (K g j) u) r N f m n p b q has c S l s t v:=by
 refine{h with wr:={h.wr with room:=h.wr.room.cell B ?_ j u},os:= ?_,tape:= ?_,output:= ?_,size:= ?_,other:= ?_}
 ·intro i D o a e;rw[h.ops]at a;have x:∀o∈b i,o.du.ownBlock≠some g:=fun o a e=>by
   have :=(ap1 ((z.room.eu i D).2 o a) g e).2;omega
  by_cases y:i=c
  ·subst y;rw[bF]at a;rcases ap7.1 a with a|a
   ·exact x o a e
   exact C o a e
  rw[b6 _ _ y]at a;exact x o a e
 ·simpa[World.setCell]using h.os
 ·simpa[World.setCell]using h.tape
 ·simpa[World.setCell]using h.output
 ·simpa[World.setCell]using h.size
 intro k E F I L;rw[aqr _ _ _ _ (show k≠g by omega)];exact h.other k E F I L
theorem gN.res(y:mo b d l c e k h i f j s m)(q:gN b n d l c e k h i f j s m r w u v){t:Value}(x:n.heap[a]?=some (.cells #[t,D] 36 (0,0)))(z:b.heap.size<=a)(B:∀o∈r,o.du.ownBlock≠some a)(g p:Value):
  gN b ((n.setCell (H a) g).setCell (K a 1) p) d l c e k h i f j s m r w u v:=by
 refine(q.cell y x z B 0 g).cell y (cs:= #[g,D]) ?_ z B 1 p;have C:=aN x;obtain⟨_,E⟩:=ap8.1 x;simp[World.setCell,C,aq5,E]
theorem xX(N:J n b)(g:mo b d l c e k h i f j a m)(P:(i a).length<60)(Q:bX m=B)(R:B<1000000)(F I kind s t u v w x o y z:Int)(C:Bool)(D:ByteArray)(r:Value)(E:List PId)(S:eE b r E)(U:∀p,r.ownBlock=some p->n.heap.size<=p):
  O 145 #[Z d,A a,.agg #[A F,A I,A kind,.bool C,A s,A t,.string D,A u,A v,A w,A x,A o,A y,A z,r]] b fun q W=>
   q=.returned (.agg #[A (B+1),A a])/\∃X Y has',gN n W d l c e k h i f j a m [⟨⟨(B+1,a),kind,C,(s,t),D,(u,v),(w,x),o,(y,z),E⟩,r⟩] X Y has':=by
 subst Q;refine(adS g P F I kind s t u v w x o y z C D r E S).mono fun _ _ ⟨L,v',M⟩=> ?_
 rw[g.toShown.top]at L M;exact⟨L,_,_,_,gN.adX g M rfl R N U⟩
end Go.Proofs.YtnkpogjiiohapaaGreatDoor
