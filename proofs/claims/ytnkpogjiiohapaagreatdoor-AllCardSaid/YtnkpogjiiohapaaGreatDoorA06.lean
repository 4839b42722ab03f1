/- Our own text. -/
import Derived.Deep.DeepCutAuto
import Derived.Test.YtnkpogjiiohapaaGreatDoorA05
set_option linter.unusedSimpArgs false
set_option linter.unusedVariables false
set_option maxRecDepth 1000000
set_option maxHeartbeats 3200000
namespace Go.Proofs.YtnkpogjiiohapaaGreatDoor
open Go.RowKit Tryz
variable {a e l u D U:Nat}{b n s:World}{c d f r I:Value}{h:Nat->Nat->Value}{i B:Nat->Value}{j y Y:Nat->List bY}{k z:Nat->Nat->Nat}{m:List bT}{q:TypeId}{v:Nat×Nat}{w:List Value}{C:List bY}{E S:Int}{F W:PId}{M X:bY}{N:Array Value}{P:ByteArray}{Q:List bA}{R:Nat->Prop}
structure aaf (aS:Bool) (ss M:List bX):Prop where
 perm:M.Perm ss
 same:aS=true->M=ss
 sorted:aS=false->TK M
 keys:aS=false->∀s∈ss,jn ⟨#[]⟩ s.key=true
 size:∀s∈ss,s.key.size<=1000
theorem ah0{c:Obj}(a:Below ((b.alloc c).alloc (.cells #[A 0,A 0,.bool false,.slice none 0 0] 272)).drew.heap.size ((b.alloc c).alloc (.cells #[A 0,A 0,.bool false,.slice none 0 0] 272)).drew n):
  n.cell? (H (b.heap.size+1))=some (A 0)/\n.cell? (K (b.heap.size+1) 1)=some (A 0)/\n.cell? (K (b.heap.size+1) 2)=some (.bool false)/\n.cell? (K (b.heap.size+1) 3)=some (.slice none 0 0)/\(∀j,n.frozen? (K (b.heap.size+1) j)=false):=by
 refine⟨ak a (by simp),ak a (by simp),ak a (by simp),ak a (by simp),λj=> ?_⟩;rw[a.frozen (p:=(K (b.heap.size+1) j)) (by simp)];simp
def TO (w:World) (b c:Int) (d:Bool) (e:Value) (p:Value) (wc:World):Prop:=
 ∃a,p=Z a/\wc.cell? (H a)=some (A b)/\wc.cell? (K a 1)=some (A c)/\wc.cell? (K a 2)=some (.bool d)/\wc.cell? (K a 3)=some e/\J w wc
theorem ah1{a:Bool}(d:J n b):TO n E S a c (Z b.heap.size) (b.alloc (.cells #[A E,A S,.bool a,c] 272)):=
 ⟨b.heap.size,rfl,by simp,by simp,by simp,by simp,d.alloc d.size _⟩
theorem ah2{a:Bool}(d:n.cell? (H (b.heap.size+1))=some (A 0))(e:n.cell? (K (b.heap.size+1) 1)=some (A 0))(f:n.cell? (K (b.heap.size+1) 2)=some (.bool false))(g:n.cell? (K (b.heap.size+1) 3)=some (.slice none 0 0))(h:J b n):TO b E S a c (Z (b.heap.size+1)) ((((n.setCell (H (b.heap.size+1)) (A E)).setCell (K (b.heap.size+1) 1) (A S)).setCell (K (b.heap.size+1) 2) (.bool a)).setCell (K (b.heap.size+1) 3) c):=
 ⟨b.heap.size+1,rfl,by simp[go_sem,d],by simp[go_sem,e],by simp[go_sem,f],by simp[go_sem,g],(((h.setCell (by simp) _).setCell (by simp) _).setCell (by simp) _).setCell (by simp) _⟩
theorem ah3 (B t d:Nat) (oj:Value) (c:List ep) (a:PId->ByteArray) (G:PId->Prop) (L:Nat) (Z9:L<=4) (aI:t<100000)
  (gY:∀(x:PId) (W:World),G x->gG B t W d oj c->O 153 #[Z d,.agg #[A x.1,A x.2],A ((L:Int)+1)] W λe N=>e=ad (.string (a x))/\J W N)
  (x1 x2:Int) (f:Nat) (oX:f<c.length) (wz:di (mO (x1,x2)) c=(f:Int)) (M:List bX) (bU:aaf c[f].aS c[f].ss M)
  (aq:∀s∈c[f].ss,∀x∈s.aj,fv x.obj.1 x.obj.2 0 0=false->G x.obj) (hn:∀s∈c[f].ss,∀x∈s.aj,mv x.kW) (cw:(oq a c[f].aS (M.map bX.p)).size<=1125899906842620)
  (w:World) (m:gG B t w d oj c):
  O 153 #[Z d,.agg #[A x1,A x2],A L] w λe N=>e=ad (.string (Ct a c[f].aS (M.map bX.p)))/\J w N:=by
 obtain⟨go,cap,cO,aO,IS,dO,Ck,dM,jq,sn,b3,lS⟩:=m.row oX;unfold maxLen at dM;subst aO;have P:=m.cell;have q:=Az.cells m.al rfl f oX;obtain⟨q,bm,bq,ce⟩:=q;have dG:go<w.heap.size:=e7 w _ q;have gW:=m.lt;have se:=m.al.2.1 c[f] (dB _);obtain⟨cq,cf,vg,mP,zd,Cs⟩:=bz se.1;unfold maxLen at zd;have at1:=(m.aj c[f] (dB _)).1;rw[vg]at ce se;clear dO b3 lS jq sn IS;have wF:=ag m;clear m;have p8:=ag se;clear se;have To:=ag Cs;clear Cs;have HVS:=ag vg;clear vg;have zp:=ag gY;clear gY;have jP:=ag aq;clear aq;have fF:=ag hn;clear hn;have u:=ag bU;clear bU;have xW:=ag P;have hlen:M.length=c[f].ss.length:=u.o.perm.length_eq;have xZ:=ag hlen;clear hlen;have HFD:=ag (λW (fk:J w W)=>Gf B d _ c x1 x2 W (wF.o.ak fk).cell (wF.o.ak fk).al);generalize cE:c[f].aS=g at *;generalize hSS:c[f].ss=b at *;have mu:=ag hSS;generalize c[f].id.1=Cu at *;generalize c[f].id.2=Cv at *;clear cE hSS;go_enter func153,ntmps153;go_wp2;go_cut [7] (λp wc=>TO w Cu Cv g (.slice cq b.length cf) p wc)
 case first =>
  go_region_with (go_at_call 174;refine(HFD.o _ ?hw).mono ?_;(case hw=>first |exact(aV w _).drew|exact((aV w _).alloc (by simp) _).drew);rintro e Q ⟨rfl,R⟩;have v:J w Q:=(by first |exact((aV w _).drew).trans (R.mono (by simp))|exact(((aV w _).alloc (by simp) _).drew).trans (R.mono (by simp;omega)));replace P:=ak v P;replace q:=ak v q;replace bm:=ak v bm;replace bq:=ak v bq;replace ce:=ak v ce;have agX:go<Q.heap.size:=e7 Q _ q;have aag:d<Q.heap.size:=e7 Q _ P;have aJ:=ag v;clear v;try(obtain⟨y0,y1,y2,y3,pt⟩:=ah0 R);have bE:=ag R;clear R)
  all_goals(go_wp2_with fail;go_meet)
  all_goals first |exact ah1 aJ.o|exact ah2 y0 y1 y2 y3 aJ.o
 case rest=>
  obtain⟨aF,rfl,c4,bK,b8,hT,aah⟩:=hcut;have Gz:=ag b8;have th:=ag hT;have ah4:=ag aah;clear c4 bK b8 hT aah;clear q bm bq ce P;go_wp2;go_loopw [8,9,10] (λs bh qO wr=>∃n:Nat,∃U:ByteArray,n<=b.length/\qO=A n/\s=.string (oq a g ((M.map bX.p).take n))/\bh=.string U/\Hq (U.size<=1000/\(g=false->U=I1 M n))/\J wc wr) (λ_ _ qO _=>b.length-(intOf qO).toNat)
  case atStart=>exact⟨0,_,b6 _,rfl,rfl,rfl,⟨by show 0<=1000;omega,λ_=>(aad M).symm⟩,ca _ _⟩
  case round=>
   obtain⟨n,U,hn,rfl,rfl,rfl,k1,X⟩:=hrel;have b8:=ak X Gz.o;have hT:=ak X th.o;have at2:aF<wr.heap.size:=e7 wr _ b8;have hMl:(M.map bX.p).length=b.length:=by rw[c2,xZ.o]
   have bS:=TJ a g (M.map bX.p) ((M.map bX.p).length-n) n (by omega);have Gv:=ag (bp ah4.o X);have k:=ag X;clear X;by_cases aL:n<b.length
   .obtain⟨Y,rfl⟩:=To.o n aL;have AN:n<(M.map bX.p).length:=by omega
    have TP:n<M.length:=by rw[xZ.o];exact aL
    have HSW:=ag (p8.o.ak Gv.o);have aai:∀i (hi:i<b.length),b[i]=M[n]->∃F I,wr.cell? (K Y (i*4))=some (.string b[i].key)/\wr.cell? (K Y (i*4+3))=some (.slice F b[i].aj.length I)/\b[i].aj.length<=1000000000/\
      (∀W,J wr W->O 177 #[Z d,.slice F b[i].aj.length I,A L] W λe N=>e=ad (.string (nj a b[i].aj))/\J W N)/\
      (nj a b[i].aj).size<=1125899906842620/\b[i].key.size<=1000:=by
     intro i hi nP;obtain⟨eh,dN,dm,hK⟩:=jm.cells HSW.o rfl i hi;have ve:=p8.o.2 b[i] (dB _);obtain⟨F,I,dP,at3,at4,_⟩:=bz ve;rw[dP]at hK ve;have Tr:=(ahY a g (M.map bX.p) n AN).1;have I2:(M.map bX.p)[n].aj=b[i].aj:=by rw[pn,nP];rfl
     rw[I2]at Tr;refine⟨F,I,eh,hK,?_,λW fk=> ?_,by omega,u.o.size _ (dB _)⟩
     .have :=(wF.o.aj _ (dB oX)).2 b[i] (by rw[mu.o];exact dB _);omega
     have oi:J w W:=bp Gv.o fk;exact ahV B t d _ c a G L Z9 zp.o _ b[i].aj W (wF.o.ak oi) (ve.ak oi) (λx az=>jP.o b[i] (dB _) x az) (λx az=>fF.o b[i] (dB _) x az) (by omega)
    have aaj:=ag aai;clear aai;cases g
    .have at5:=k1.o.1;have ah5:=ag (k1.o.2 rfl);have TQ:=ag (agx B aF 0 (aa Y b.length cf) b U wr hT HSW.o (λs aj=>by have :=u.o.size s aj;unfold maxLen;omega) (by unfold maxLen;omega));go_wp2_with fail
     refine TQ.o.mono ?_;rintro e w2 ⟨r,rfl,aP,ir,rfl⟩;rw[ah5.o]at aP;obtain⟨i,hi,rfl,nP⟩:=ahZ u.o.perm (u.o.sorted rfl) (u.o.keys rfl) aL aP;obtain⟨F,I,eh,hK,Lh,l,hvz,y⟩:=aaj.o i hi nP;have l:=ag l;have z:=ag nP;clear nP aP;have ah6:Y<wr.heap.size:=e7 wr _ eh;have C:=ag (show oq a false ((M.map bX.p).take (n+1))=qc a false (oq a false ((M.map bX.p).take n)) b[i].p by rw[Pp a false AN,pn,<-z.o]);generalize oq a false ((M.map bX.p).take n)=S at *;have hSc:(S++comma).size=S.size+1:=mc _ _;have hSk:(S++b[i].key).size=S.size+b[i].key.size:=mc _ _;have ah7:((S++comma)++b[i].key).size=S.size+1+b[i].key.size:=by rw[mc,hSc]
     have Lt:((S++b[i].key)++colon).size=S.size+b[i].key.size+1:=by rw[mc,hSk];rfl
     have at6:(((S++comma)++b[i].key)++colon).size=S.size+1+b[i].key.size+1:=by rw[mc,ah7];rfl
     have aZ:(⟨#[44]⟩:ByteArray)=comma:=rfl;have kL:(⟨#[58]⟩:ByteArray)=colon:=rfl;have jT:comma.size=1:=rfl;have gP:colon.size=1:=rfl;by_cases D:b[i].aj.length=0
     .go_wp2;go_roundw
      case rel=>exact⟨n+1,_,by omega,by go_num,by rw[C.o];unfold qc;rw[bn (by exact D)],rfl,⟨y,λ_=>by rw[Ls M TP,<-z.o]⟩,io k.o _⟩
      case measure=>simp[intOf];omega
     cases gg:S.toList.isEmpty
     .go_wp2_with (go_at_call 177;go_must (refine(l.o _ ?hw).mono ?_;(case hw=>exact io (ca _ _) _);rintro e w3 ⟨rfl,j⟩;have E:=ag j;clear j))
      go_roundw
      case rel=>exact⟨n+1,_,by omega,by go_num,by rw[C.o];unfold qc;rw[a7 (by exact D),gg];rfl,rfl,⟨y,λ_=>by rw[Ls M TP,<-z.o]⟩,(io k.o _).trans (E.o.mono (by exact(io k.o _).size))⟩
      case measure=>simp[intOf];omega
     go_wp2_with (go_at_call 177;go_must (refine(l.o _ ?hw).mono ?_;(case hw=>exact io (ca _ _) _);rintro e w3 ⟨rfl,j⟩;have E:=ag j;clear j))
     go_roundw
     case rel=>exact⟨n+1,_,by omega,by go_num,by rw[C.o];unfold qc;rw[a7 (by exact D),gg];rfl,rfl,⟨y,λ_=>by rw[Ls M TP,<-z.o]⟩,(io k.o _).trans (E.o.mono (by exact(io k.o _).size))⟩
     case measure=>simp[intOf];omega
    have z:=ag (show b[n]=M[n] by have :=u.o.same rfl;subst this;rfl);obtain⟨F,I,eh,hK,Lh,l,hvz,y⟩:=aaj.o n aL z.o;have l:=ag l;have ah6:Y<wr.heap.size:=e7 wr _ eh;have C:=ag (show oq a true ((M.map bX.p).take (n+1))=qc a true (oq a true ((M.map bX.p).take n)) b[n].p by rw[Pp a true AN,pn,<-z.o]);generalize oq a true ((M.map bX.p).take n)=S at *;have hSc:(S++comma).size=S.size+1:=mc _ _;have aZ:(⟨#[44]⟩:ByteArray)=comma:=rfl;have kL:(⟨#[58]⟩:ByteArray)=colon:=rfl;have jT:comma.size=1:=rfl;have gP:colon.size=1:=rfl;by_cases D:b[n].aj.length=0
    .go_wp2;go_roundw
     case rel=>exact⟨n+1,_,by omega,by go_num,by rw[C.o];unfold qc;rw[bn (by exact D)],rfl,⟨y,λh=>by cases h⟩,k.o⟩
     case measure=>simp[intOf];omega
    cases gg:S.toList.isEmpty
    .go_wp2_with (go_at_call 177;go_must (refine(l.o _ ?hw).mono ?_;(case hw=>exact ca _ _);rintro e w3 ⟨rfl,j⟩;have E:=ag j;clear j))
     go_roundw
     case rel=>exact⟨n+1,_,by omega,by go_num,by rw[C.o];unfold qc;rw[a7 (by exact D),gg];rfl,rfl,⟨y,λh=>by cases h⟩,(k.o).trans (E.o.mono (by exact(k.o).size))⟩
     case measure=>simp[intOf];omega
    go_wp2_with (go_at_call 177;go_must (refine(l.o _ ?hw).mono ?_;(case hw=>exact ca _ _);rintro e w3 ⟨rfl,j⟩;have E:=ag j;clear j))
    go_roundw
    case rel=>exact⟨n+1,_,by omega,by go_num,by rw[C.o];unfold qc;rw[a7 (by exact D),gg];rfl,rfl,⟨y,λh=>by cases h⟩,(k.o).trans (E.o.mono (by exact(k.o).size))⟩
    case measure=>simp[intOf];omega
   have Er:(M.map bX.p).take n=M.map bX.p:=kp (by omega);rw[Er];have at7:=cw;have Pq:=ag (show ∀S,S=oq a g (M.map bX.p)->Ct a g (M.map bX.p)=if g then((⟨#[91]⟩:ByteArray)++S)++⟨#[93]⟩ else((⟨#[123]⟩:ByteArray)++S)++⟨#[125]⟩ from λS e=>by rw[e];rfl);have Pq:=ag (Pq.o _ rfl);generalize oq a g (M.map bX.p)=S at *;have I3:((⟨#[91]⟩:ByteArray)++S).size=1+S.size:=mc _ _;have hS2:((⟨#[123]⟩:ByteArray)++S).size=1+S.size:=mc _ _;cases g
   .go_wp2;go_ret
    exact⟨Eo Pq.o.symm,Gv.o⟩
   go_wp2;go_ret
   exact⟨Eo Pq.o.symm,Gv.o⟩
theorem aak:∀(a b:List UInt8),Op.bytesLess a b=false->Op.bytesLess b a=false->a=b
 |[],[],_,_=>rfl
 |[],_::_,h,_=>by contradiction
 |_::_,[],_,h=>by contradiction
 |x::a,y::b,c,d=>by simp[Op.bytesLess,OA,YE]at c d;have e:x=y:=afM.1 (by omega);subst e;rw[aak a b (c.2 rfl) (d.2 rfl)]
theorem aal{b:ByteArray}(a:jn P b=false)(c:jn b P=false):P=b:=by apply SI;apply afU.1;exact aak _ _ a c
def Lu (a b:cK):Bool:= !jn b.key a.key
def vh (l:List cK):List cK:=l.mergeSort Lu
def Cw (a b:bX):Bool:= !jn b.key a.key
def Lv (l:List bX):List bX:=l.mergeSort Cw
theorem ah8(l:List bX):(Lv l).map bX.p=vh (l.map bX.p):=by exact List.map_mergeSort (λa _ b _=>rfl)
theorem aam(l:List bX):(Lv l).Perm l:=OF _ _
theorem aan(a b c:bX)(f:Cw a b=true)(g:Cw b c=true):Cw a c=true:=by
 unfold Cw at *;simp at *;cases h:jn c.key a.key
 .rfl
 cases d:jn a.key b.key
 .have e:=aal d f
  simp_all
 have :=TM h d
 simp_all
theorem aao(a b:bX):(Cw a b||Cw b a)=true:=by
 unfold Cw;cases h:jn b.key a.key
 .simp
 cases c:jn a.key b.key
 .simp
 have :=TM h c;rw[TL]at this;cases this
theorem ah9 (l:List bX) (c:l.Pairwise λa b=>a.key≠b.key):TK (Lv l):=by
 refine((YQ aan aao l).and ((List.Perm.pairwise_iff (λ{a b} h=>eE h) (aam l)).2 c)).imp λ{a b} ⟨h,d⟩=> ?_
 unfold Cw at h;simp at h;cases e:jn a.key b.key
 .exact absurd (aal e h) d
 rfl
def me (o:bA):List cK:=if o.aS then o.ss else vh o.ss
def vi (D:List bA):Nat->PId->ByteArray
 |0,_=>⟨#[35]⟩
 |r+1,x=>match D.find? (kK x) with
  |some o=>Ct (vi D r) o.aS (me o)
  |none=>⟨#[]⟩
structure TR (D:List bA):Prop where
 keys:∀o∈D,o.aS=false->(o.ss.Pairwise λa b=>a.key≠b.key)/\∀s∈o.ss,s.key≠⟨#[]⟩
 aia:∀o∈D,∀s∈o.ss,s.key.size<=1000
 vj:∀o∈D,∀s∈o.ss,∀h∈s.aj,mv h.kW
 zq:∀o∈D,∀s∈o.ss,∀h∈s.aj,h.obj=(0,0)\/∃o'∈D,o'.id=h.obj
 size:∀r,r<=4->∀o∈D,(oq (vi D r) o.aS (me o)).size<=1125899906842620
theorem aib(h:P≠⟨#[]⟩):jn ⟨#[]⟩ P=true:=by
 show Op.bytesLess [] P.data.toList=true;cases b:P.data.toList with
 |nil=>exact absurd (by apply SI;simp_all) h
 |cons a l=>rfl
theorem aic{D:List bA}{x:PId}{k:Nat}(h:di (kK x) D=(k:Int)):∃a:k<D.length,D.find? (kK x)=some D[k]:=by
 unfold di at h;split at h
 .rename_i i b
  have e:i=k:=by omega
  subst e;obtain⟨a,c,d⟩:=F4.1 b;refine⟨a,?_⟩;rw[OE];exact⟨c,i,a,rfl,λj f=>by simp_all⟩
 omega
theorem aid (d:Nat) (a b:Int) (w:World):
  O 153 #[Z d,.agg #[A a,A b],A 5] w λe c=>e=ad (.string ⟨#[35]⟩)/\J w c:=by
 go_enter func153,ntmps153;go_wp2;go_ret
 exact⟨rfl,aV _ _⟩
theorem aie{b:List ep}{x:PId}(h:∃o∈b.map ep.p,o.id=x):∃k,∃_:k<b.length,di (mO x) b=(k:Int):=by
 obtain⟨o,g,e⟩:=h;have l:=Ci (mO x) b;have m:=Gj (mO x) b;by_cases n:di (mO x) b<0
 .exfalso;have d:di (mO x) b= -1:=by omega
  unfold di at d;split at d
  .omega
  rename_i f
  rw[Oz]at f;obtain⟨c,i,rfl⟩:=dF.1 g;have :=f c i;unfold mO at this;rw[Ch]at this
  contradiction
 obtain⟨k,j⟩:=Ce (a:=di (mO x) b) (by omega);exact⟨k,by omega,j⟩
theorem aif {o:ep} (c:o.aS=false->(o.ss.Pairwise λa b=>a.key≠b.key)/\∀s∈o.ss,s.key≠⟨#[]⟩) (d:∀s∈o.ss,s.key.size<=1000):
  aaf o.aS o.ss (if o.aS then o.ss else Lv o.ss):=by
 cases h:o.aS
 .rw[h]at c;exact⟨aam _,λh=>(by cases h),λ_=>ah9 _ (c rfl).1,λ_ s e=>aib ((c rfl).2 s e),d⟩
 exact⟨afV _,λ_=>rfl,λh=>(by cases h),λh=>(by cases h),d⟩
theorem aig (B t d:Nat) (n:Value) (c:List ep) (E:t<100000) (i:TR (c.map ep.p)):
  ∀(r:Nat),r<=4->∀(x:PId) (w:World),(∃o∈c.map ep.p,o.id=x)->gG B t w d n c->
   O 153 #[Z d,.agg #[A x.1,A x.2],A ((5-r:Nat):Int)] w λe q=>e=ad (.string (vi (c.map ep.p) r x))/\J w q:=by
 intro r
 induction r with
 |zero=>intro _ x w _ _;exact aid d x.1 x.2 w
 |succ r ih=>
  intro Y x w F I;obtain⟨f,L,M⟩:=aie F;have j:c[f].p∈c.map ep.p:=K3 (dB _);have l:∀s∈c[f].ss,s.p∈c[f].p.ss:=λs g=>K3 g
  have N:=aif (o:=c[f])
   (λu=>⟨by
    have :=(i.keys _ j u).1;have v:(c[f].ss.map bX.p).Pairwise λa b=>a.key≠b.key:=this
    rw[ry]at v;exact v,λs g=>(i.keys _ j u).2 s.p (l s g)⟩)
   (λs g=>i.aia _ j s.p (l s g))
  have z:(if c[f].aS then c[f].ss else Lv c[f].ss).map bX.p=me c[f].p:=by
   show _=if c[f].aS then c[f].ss.map bX.p else vh (c[f].ss.map bX.p)
   split
   .rfl
   exact ah8 _
  have P:(c.map ep.p).find? (kK x)=some c[f].p:=by
   obtain⟨c9,h⟩:=aic (D:=c.map ep.p) (x:=x) (k:=f) (by rw[Pb];omega)
   simp_all
  have Q:=ah3 B t d n c (vi (c.map ep.p) r) (λy=>∃o∈c.map ep.p,o.id=y) (5-(r+1)) (by omega) E
   (λy W R S=>by have :=ih (by omega) y W R S;rw[show((5-r:Nat):Int)=((5-(r+1):Nat):Int)+1 by omega]at this;omega)
   x.1 x.2 f L M _ N
   (λs g h m C=>by
    rcases i.zq _ j s.p (l s g) h m with e|e
    .rw[e]at C;simp[fv]at C
    exact e)
   (λs g h m=>i.vj _ j s.p (l s g) h m)
   (by rw[z];exact i.size r (by omega) _ j)
   w I
  refine Q.mono λe q ⟨U,X⟩=>⟨?_,X⟩
  rw[U,z];unfold vi;rw[P];rfl
theorem aap(p:bT)(o:bA):(hJ p o).id=o.id:=by unfold hJ;split <;>split <;>rfl
theorem aih{D:List bA}{f:bA->bA}(a:∀o,(f o).id=o.id)(k:Nat):(D.modify k f).map bA.id=D.map bA.id:=by
 apply xN;intro j;rw[Av,Av,YH];cases D[j]? with
 |none=>simp
 |some o=>by_cases e:k=j<;>simp[e,a]
theorem aii(D:List bA)(p:bT):∃l,(cC D p).map bA.id=D.map bA.id++l:=by
 unfold cC;split
 .simp
 split
 .simp
 exact⟨[],by rw[aih (aap p)];simp⟩
theorem aij(S:List bT):∀D:List bA,(∃o∈D,o.id=(0,0))->∃o∈S.foldl cC D,o.id=(0,0):=by
 induction S with
 |nil=>intro D h;exact h
 |cons p S ih=>
  intro D ⟨o,a,e⟩;refine ih _ ?_;obtain⟨l,b⟩:=aii D p;have :(0,0)∈(cC D p).map bA.id:=by rw[b];exact p3 _ (dF.2 ⟨o,a,e⟩)
  obtain⟨c,d,f⟩:=dF.1 this;exact⟨c,d,f⟩
def eJ (o:bA):List PId:=(o.ss.filter λs=>decide (0<s.aj.length)).map cK.id
theorem Pt (l:List bX):lz l=((l.map bX.p).filter λs=>decide (0<s.aj.length)).map cK.id:=by rw[afW,rz];rfl
def jU (D:List bA) (x:PId):Except Int (List PId):=
 match qP D x true with
 |.error n=>.error n
 |.ok k=>.ok (match D[k]? with |some o=>eJ o|none=>[])
theorem aik (r:Shown b a l c d f i j h k e m) (w x:Int):
  O 104 #[Z a,A e,.agg #[A w,A x]] b λg D=>
   J b D/\((∃n,(n=3\/n=4)/\jU (m.foldl cC dD) (w,x)=.error n/\g=ad (.tuple #[.slice none 0 0,A n]))\/
   (∃v p,jU (m.foldl cC dD) (w,x)=.ok p/\p.length<=240/\g=ad (.tuple #[v,A 0])/\hR b.heap.size D v p)):=by
 have L:=r;generalize M:m.foldl cC dD=E;have N:=M;go_enter func104,ntmps104;go_wp2_with fail
 refine(Lq (L.ak (aV b _)) w x true).mono ?_;rw[N];have z:=aV b (.cells #[A w,A x] 36);rintro g w1 (⟨n,B,P,rfl,Q⟩|⟨q,s,R,cap,S,B,rfl,U⟩)
 .have F:=aN B Q;have W:=P;have oW:¬n=0:=by omega
  go_wp2;go_ret2
  exact⟨bp z F.2,.inl ⟨n,W,by unfold jU;rw[F.1],rfl⟩⟩
 have X:=B;have t:=U;have Y:=ag t.ix;have wE:=ag t.cell;have eb:=t.len;have I:=eb;have mu:=ag t.ss;have tg:=t.lt;generalize S[q]=y at *;have nR:=show jU E (w,x)=.ok (lz y.ss) by
   unfold jU;rw[X];have :=mu.o;cases C:E[q]? with
   |none=>rw[C]at this;cases this
   |some o=>rw[C]at this;simp at this;simp only[C,eJ];rw[this,Pt]
 go_wp2_with fail
 refine(OT _ R (q*4) _ y.ss _ wE.o Y.o (by have :=I.1;omega)).mono ?_;rintro g w2 ⟨u,rfl,hu,bo⟩;have kw:=hu;have bF:=bo;go_wp2;go_ret2
 refine⟨bp z (bp t.dn bF),.inr ⟨u,_,nR,?_,rfl,ii kw ?_⟩⟩
 .have :=Lb y.ss y.ss.length;rw[kp (bW _)]at this;have :=I.1;omega
 have :=t.dn.size;have :=z.size;omega
theorem ail (m:fS b a e c d f i j h k) (g n o:Int) (q:¬(0<=g/\g<e)):
  O 104 #[Z a,A g,.agg #[A n,A o]] b λl r=>l=ad (.tuple #[.slice none 0 0,A 2])/\J b r:=by
 have p:=aV b (af n o);go_enter func104,ntmps104;go_wp2_with fail
 refine(Lp (m.ak p) g n o true q).mono ?_;rintro l t ⟨rfl,s⟩;go_wp2;go_ret2
 exact⟨rfl,bp p s⟩
theorem Pu (m:fS b a e c d f i j h k) (g n o:Int) (q:ByteArray) (r:¬(0<=g/\g<e)):
  O 143 #[Z a,A g,.agg #[A n,A o],.string q] b λl s=>l=ad (.tuple #[.slice none 0 0,A 2])/\J b s:=by
 have p:=aV b (af n o);go_enter func143,ntmps143;go_wp2_with fail
 refine(Lp (m.ak p) g n o false r).mono ?_;rintro l u ⟨rfl,t⟩;go_wp2;go_ret2
 exact⟨rfl,bp p t⟩
theorem aim (m:fS b a e c d f i j h k) (g:Int) (o:¬(0<=g/\g<e)):
  O 103 #[Z a,A g] b λl p=>l=ad (.tuple #[.string ⟨#[]⟩,A 2])/\J b p:=by
 go_enter func103,ntmps103;go_wp2_with fail
 refine(vd m g).mono ?_;rintro l q ⟨n,rfl⟩;rw[p2 o]at n;subst n;go_wp2;go_ret2
 exact⟨rfl,ca _ _⟩
theorem ain (n:Shown b e l c d f i j h k a m) (s:TR (m.foldl cC dD)):
  O 103 #[Z e,A a] b λg t=>g=ad (.tuple #[.string (vi (m.foldl cC dD) 4 (0,0)),A 0])/\J b t:=by
 generalize u:vi (m.foldl cC dD) 4 (0,0)=B;go_enter func103,ntmps103;go_wp2_with fail
 refine(vd n.bN a).mono ?_;rintro g q ⟨r,rfl⟩;rw[nJ (show 0<=(a:Int)/\(a:Int)<l by have :=n.hc;omega)]at r;subst r;go_wp2_with fail
 refine(Z0 n).mono ?_;rintro g q ⟨o,v,w,rfl,x,p,y⟩;go_wp2_with fail
 refine(aig _ 240 o v w (by omega) (by rw[p];exact s) 4 (by omega) (0,0) q (by rw[p];exact aij m dD ⟨_,fR.2 rfl,rfl⟩) x).mono ?_;rintro g C ⟨rfl,z⟩;rw[p,u];go_wp2;go_ret2
 exact⟨rfl,bp y z⟩
abbrev eP:=Int×PId
def sv (x:eP):List Value:=[A x.1,A x.2.1,A x.2.2]
def valOf (h:dr):eP:=(h.kW,h.obj)
def qQ (B:Nat) (w:World) (v:Value) (l:List eP):Prop:=w.ownsRow B 57 3 v l.length (l.flatMap sv)
theorem qQ.alloc{B w v l}(h:qQ B w v l)(o:Obj):qQ B (w.alloc o) v l:=Cc h o
theorem qQ.dn{w v l}(h:qQ a w v l)(c:Below a b w)(d:a<=w.heap.size)(e:w.grownBy n v.ownBlock):Below a b n:=
 c.grown e d λk f=>(cX h k f).1
theorem aio{x:eP}:∀u∈sv x,u.oneCell'=true:=by intro u a;simp[sv]at a;rcases a with rfl|rfl|rfl<;>rfl
theorem aaq{x:eP}(d:b.cell? (H a)=some (A x.1))(e:b.cell? (K a 1)=some (A x.2.1))(f:b.cell? (K a 2)=some (A x.2.2)):
  ∀j u,(sv x)[j]?=some u->b.cell? (K a j)=some u:=by
 intro j u c
 match j with
 |0=>simp[sv]at c;simp_all
 |1=>simp[sv]at c;simp_all
 |2=>simp[sv]at c;simp_all
 |j+3=>contradiction
theorem aar{f:Array Oper}{rest:List Oper}{o:Oper}{a:Act}{Q:Exit->Act->World->Prop}(i:o.guard=none)(s x:Operand)(k:o.op=.call {callee:=.builtin .append,args:= #[s,x],argTypes:= #[53,53]})(B:Nat)(v:Value)(l:List eP)(m:a.eval s=v)(n:qQ B b v l)(g c:Nat)(y:eP)(p:a.eval x=aa g 1 c)(q:∀j u,(sv y)[j]?=some u->b.cell? (K g j)=some u)(w:l.length<1000000000)(r:B<=b.heap.size)(h:∀e d,qQ B d e (l++[y])->b.grownBy d v.ownBlock->wpList prog f Q rest (a.put o.dst e) d):wpList prog f Q (o::rest) a b:=
 OP sv 3 24 53 57 (.agg #[A 0,A 0,A 0]) (by kernel_rfl) underlying53 rfl (by omega) (λ_=>rfl) i s x k B v l m n g c y p
  q aio (by omega) (by unfold maxLen;omega) r (λe d z t=>h e d (by unfold qQ;simp_all) t)
def x5 (D:List bA) (x:PId) (a:ByteArray):Except Int (List eP):=
 match nh D x a with
 |.error n=>.error n
 |.ok b=>.ok (b.map valOf)
theorem aip (t:Shown b a l c d f i j h k e m) (z B:Int) (C:ByteArray) (er:C.size<=maxLen):
  O 107 #[Z a,A e,.agg #[A z,A B],.string C] b λq N=>
   J b N/\((∃n,(n=3\/n=4\/n=5)/\x5 (m.foldl cC dD) (z,B) C=.error n/\q=ad (.tuple #[.slice none 0 0,A n]))\/
   (∃v r,x5 (m.foldl cC dD) (z,B) C=.ok r/\r.length<=240/\q=ad (.tuple #[v,A 0])/\qQ b.heap.size N v r)):=by
 have D:=aV b (af z B);have P:=ag (Po (t.ak D) z B C er);generalize oo:m.foldl cC dD=nQ;rw[oo]at P;go_enter func107,ntmps107;go_wp2_with fail
 refine P.o.mono ?_;rintro q E ⟨Q,⟨n,hn,F,rfl⟩|⟨v,y,F,hl,rfl,R⟩⟩
 .have S:=aN F Q;have I:=ag hn;have oW:¬n=0:=by omega
  go_wp2;go_ret2
  exact⟨bp D S.2,.inl ⟨n,I.o,by unfold x5;rw[S.1],rfl⟩⟩
 have U:=bp D Q;obtain⟨w,cap,rfl,kt,dM,ku⟩:=bz R;go_wp2;go_loopw [12,13] (λu s wr=>∃p:Nat,p<=y.length/\s=A p/\qQ E.heap.size wr u ((y.take p).map valOf)/\J E wr) (λ_ s _=>y.length-(intOf s).toNat)
 case atStart=>exact⟨0,b6 _,rfl,hg _ _ _ _,ca _ _⟩
 case round=>
  obtain⟨p,hk,rfl,L,x⟩:=hrel;by_cases M:p<y.length
  .obtain⟨g,rfl⟩:=ku p M;obtain⟨d0,d1,W,X,Y⟩:=mp.cells R rfl p M;replace W:=ak x W;replace X:=ak x X;replace Y:=ak x Y;have dV:=L;go_wp2_with (at_builtin;go_must (refine aar rfl (.tmp 31) (.tmp 37) rfl E.heap.size _ ((y.take p).map valOf) rfl (by exact dV.alloc _) wr.heap.size 1 (valOf y[p]) rfl (aaq (by simp[go_sem,valOf]) (by simp[go_sem,valOf]) (by simp[go_sem,valOf])) (by simp;omega) (by have :=x.size;simp;omega) ?_;intro v' w2 hD fw;have I:=ag hD))
   go_roundw
   case rel=>exact⟨p+1,by omega,by go_num,by rw[IG _ M];exact I.o,qQ.dn (dV.alloc _) (x.alloc x.size _) (by have :=x.size;simp;omega) fw⟩
   case measure=>simp[intOf];omega
  go_wp2;go_ret2
  rw[kp (by omega)]at L;exact⟨bp U x,.inr ⟨_,_,by unfold x5;rw[F],by simpa using hl,rfl,ii L U.size⟩⟩
theorem aiq (m:fS b a e c d f i j h k) (g n o:Int) (p:ByteArray) (r:¬(0<=g/\g<e)):
  O 107 #[Z a,A g,.agg #[A n,A o],.string p] b λl s=>l=ad (.tuple #[.slice none 0 0,A 2])/\J b s:=by
 have q:=aV b (af n o);go_enter func107,ntmps107;go_wp2_with fail
 refine(Pu (m.ak q) g n o p r).mono ?_;rintro l u ⟨rfl,t⟩;go_wp2;go_ret2
 exact⟨rfl,bp q t⟩
def lC (l:List PId) (i:Int):Option PId:=if i<0\/i>l.length then none else if i=0 then some (0,0) else l[(i-1).toNat]?
theorem aas (v:Value) (l:List PId) (i:Int) (w:World) (h:fu w v l):
  O 148 #[v,A i] w λe n=>J w n/\
   ((lC l i=none/\e=ad (.tuple #[.agg #[A 0,A 0],.bool false]))\/∃x,lC l i=some x/\e=ad (.tuple #[.agg #[A x.1,A x.2],.bool true])):=by
 obtain⟨a,r,rfl,s,p,c⟩:=bz h;unfold maxLen at p;by_cases j:i<0
 .have b:=ag (show lC l i=none by unfold lC;rw[bn (.inl j)]);clear h c;go_enter func148,ntmps148;go_wp2;exact ey (v:=.tuple #[.agg #[A 0,A 0],.bool false]) (by simp[results,results148,go_sem]) rfl ⟨aV _ _,.inl ⟨b.o,rfl⟩⟩
 by_cases m:(l.length:Int)<i
 .have b:=ag (show lC l i=none by unfold lC;rw[bn (.inr m)]);clear h c;go_enter func148,ntmps148;go_wp2;exact ey (v:=.tuple #[.agg #[A 0,A 0],.bool false]) (by simp[results,results148,go_sem]) rfl ⟨aV _ _,.inl ⟨b.o,rfl⟩⟩
 by_cases d:i=0
 .have b:=ag (show lC l i=some (0,0) by unfold lC;rw[a7 (by omega),bn d]);subst d;clear h c j m;go_enter func148,ntmps148;go_wp2;exact ey (v:=.tuple #[.agg #[A 0,A 0],.bool true]) (by simp[results,results148,go_sem]) rfl ⟨aV _ _,.inr ⟨(0,0),b.o,rfl⟩⟩
 obtain⟨k,rfl⟩:∃k:Nat,i=(k:Int)+1:=⟨(i-1).toNat,by omega⟩;have f:k<l.length:=by omega
 obtain⟨g,rfl⟩:=c k f;obtain⟨q,t⟩:=fu.cells h rfl k f;have u:g<w.heap.size:=e7 w _ q;have b:=ag (show lC l ((k:Int)+1)=some l[k] by unfold lC;rw[a7 (by omega),a7 (by omega)];simp[f]);clear h c d;go_enter func148,ntmps148;go_wp2;exact ey (v:=.tuple #[.agg #[A l[k].1,A l[k].2],.bool true]) (by simp[results,results148,go_sem]) rfl ⟨by go_grown,.inr ⟨l[k].1,l[k].2,b.o,rfl⟩⟩
structure Apart (N:Nat) (bi:Nat->Value) (cp:Nat->Nat->Value):Prop where
 ar:∀i j,i<N->j<N->i≠j->(bi i).ownBlock=none\/(bi i).ownBlock≠(bi j).ownBlock
 ai:∀c cB,c<N->cB<N->c≠cB->(cp c 0).ownBlock≠(cp cB 0).ownBlock
def upd {α:Type} (f:Nat->α) (c:Nat) (x:α):Nat->α:=λi=>if i=c then x else f i
theorem bL {α:Type} (f:Nat->α) (c:Nat) (x:α):upd f c x c=x:=by simp[upd]
theorem ch {α:Type} (f:Nat->α) {i:Nat} (x:α) (h:i≠a):upd f a x i=f i:=by simp[upd,h]
theorem Pv {α β:Type} (f:Nat->α) (g:α->β) (c:Nat) (x:α) (N:Nat):(List.range N).map (λi=>g (upd f c x i))=((List.range N).map λi=>g (f i)).set c (g x):=by
 apply xN;intro j;rw[YI];by_cases a:c=j
 .subst a;by_cases b:c<N<;>simp[b,upd]
 by_cases b:j<N
 .simp[b,a,upd,eE a]
 simp_all
theorem fS.add {w W:World} (q:fS w D u c d f i j h k) (E:Apart u i h) (N:a<u)
  {gO gH:Nat} (hgO:c.ownBlock=some gO) (hgH:(h a 0).ownBlock=some gH) {v':Value} {o:bY}
  (jt:W.ownsRow 0 255 1 c u (((List.range u).map i).set a v')) (hH:W.ownsRow 0 3 1 (h a 0) u (((List.range u).map λb=>A (k a b)).set a (A ((k a a:Int)+1))))
  (aO:W.ownsRow 0 233 15 v' ((j a).length+1) ((j a++[o]).flatMap nf)) (al:fu W o.ea o.p.old) (Es:∀(g:Nat) (F:Array Value),w.heap[g]?=some (.cells F 36)->W.heap[g]?=w.heap[g]?)
  (X:∀r,r<w.heap.size->r≠gO->r≠gH->some r≠(i a).ownBlock->W.heap[r]?=w.heap[r]?) (dJ:lB w (i a) v') (Et:(j a).length<60) (k2:k a a=(j a).length):
  fS W D u c d f (upd i a v') (upd j a (j a++[o])) h (λm b=>if m=a/\b=a then k a a+1 else k m b)/\Apart u (upd i a v') h:=by
 have qR:=(e8.1 q.aP).1;obtain⟨rD,Y⟩:=b0 q.jt hgO;obtain⟨oV,IY⟩:=b0 (q.hH a N) hgH;have k3:∀(r:Nat) (I:Array Value) (e:TypeId),w.heap[r]?=some (.cells I e)->e≠255->e≠3->e≠233->W.heap[r]?=w.heap[r]?:=by
  intro r I e R L h2 ax;refine X r (e8.1 R).1 ?_ ?_ ?_
  .intro v;subst v;exact L (cQ R Y)
  .intro v;subst v;exact h2 (cQ R IY)
  intro v;obtain⟨cB,cD⟩:=b0 (q.fa a N).1 v.symm;exact ax (cQ R cD)
 have aat:∀{s:Value} {l:List PId},fu w s l->fu W s l:=by
  intro s l P;refine⟨P.1,?_⟩;rcases P.2 with z|⟨g,cap,F,av,C,y,rest⟩
  .exact .inl z
  exact .inr ⟨g,cap,F,av,C,by rw[Es g F y];exact y,rest⟩
 have fl:∀{e:TypeId} {size:Nat} {s:Value} {n:Nat} {xs:List Value},w.ownsRow 0 e size s n xs->(∀g,s.ownBlock=some g->W.heap[g]?=w.heap[g]?)->W.ownsRow 0 e size s n xs:=by
  intro e size s n xs P y;refine⟨P.1,?_⟩;rcases P.2 with z|⟨g,cap,F,rfl,C,tc,rest⟩
  .exact .inl z
  exact .inr ⟨g,cap,F,rfl,C,by rw[y g rfl];omega,rest⟩
 refine⟨⟨?_,q.hN,?_,?_,?_,?_,?_,?_⟩,?_⟩
 .rw[k3 D _ _ q.aP (by decide) (by decide) (by decide)];exact q.aP
 .have :=Pv i id a v' u;simp only[id]at this;rw[show(List.range u).map (upd i a v')=(List.range u).map (λb=>upd i a v' b) from rfl,this];exact jt
 .intro b x;by_cases e:b=a
  .subst e;rw[bL,bL];refine⟨by rw[dh];exact aO,λo' hS=> ?_⟩;rcases dZ.1 hS with L|L
   .exact aat ((q.fa b x).2 o' L)
   simp at L;subst L;exact al
  rw[ch _ _ e,ch _ _ e];refine⟨fl (q.fa b x).1 (λg y=> ?_),λo' hS=>aat ((q.fa b x).2 o' hS)⟩;obtain⟨I,B⟩:=b0 (q.fa b x).1 y;refine X g (e8.1 B).1 ?_ ?_ ?_
  .intro v;subst v;exact absurd (cQ B Y) (by decide)
  .intro v;subst v;exact absurd (cQ B IY) (by decide)
  intro v;rcases E.ar b a x N e with Q|Q
  .rw[Q]at y;cases y
  exact Q (by rw[y,v])
 .exact fl q.ho (λg y=>by obtain⟨I,B⟩:=b0 q.ho y;exact k3 g I _ B (by decide) (by decide) (by decide))
 .intro m M;by_cases e:m=a
  .subst e;have aD:(List.range u).map (λb=>A ((if m=m/\b=m then k m m+1 else k m b:Nat):Int))=((List.range u).map λb=>A (k m b)).set m (A ((k m m:Int)+1)):=by have :=Pv (λb=>k m b) (λn=>A (n:Int)) m (k m m+1) u;rw[show((k m m:Int)+1)=((k m m+1:Nat):Int) by omega,<-this];apply F8;intro b _;simp[upd]
   rw[aD];exact hH
  have aD:(List.range u).map (λb=>A ((if m=a/\b=a then k a a+1 else k m b:Nat):Int))=(List.range u).map λb=>A (k m b):=by apply F8;intro b _;simp[e]
  rw[aD];refine fl (q.hH m M) (λg y=> ?_);obtain⟨I,B⟩:=b0 (q.hH m M) y;refine X g (e8.1 B).1 ?_ ?_ ?_
  .intro v;subst v;exact absurd (cQ B Y) (by decide)
  .intro v;subst v;exact E.ai m a M N e (by rw[y,hgH])
  intro v;obtain⟨cB,cD⟩:=b0 (q.fa a N).1 v.symm;exact absurd (cQ B cD) (by decide)
 .intro m b M x;by_cases e:b=a
  .subst e;rw[bL,dh];have :=q.eb m b M x;split
   .simp;omega
   simp;omega
  rw[ch _ _ e,a7 (by intro Q;exact e Q.2)];exact q.eb m b M x
 .intro b x;by_cases e:b=a
  .subst e;rw[bL,dh];simp;omega
  rw[ch _ _ e];exact q.cw b x
 refine⟨λb t x S U=> ?_,E.ai⟩;have aL:=λb x g y=>(cX (q.fa b x).1 g y).2
 by_cases nP:b=a
 .subst nP;rw[bL,ch _ _ (eE U)];rcases dJ with z|z
  .rw[z];exact E.ar b t x S U
  cases C:v'.ownBlock with
  |none=>exact .inl rfl
  |some g=>right;intro e;have :=aL t S g e.symm;have :=z g C;omega
 by_cases vc:t=a
 .subst vc;rw[bL,ch _ _ nP];rcases dJ with z|z
  .rw[z];exact E.ar b t x S U
  cases C:(i b).ownBlock with
  |none=>exact .inl rfl
  |some g=>right;intro e;have :=aL b x g C;have :=z g e.symm;omega
 rw[ch _ _ nP,ch _ _ vc];exact E.ar b t x S U
def pu (l:List bY):Int:=l.foldl (λm o=>if m<o.p.id.1 then o.p.id.1 else m) 0
theorem aau(h:a<C.length):pu (C.take (a+1))=if pu (C.take a)<C[a].p.id.1 then C[a].p.id.1 else pu (C.take a):=by unfold pu;rw[lx h,Ax];rfl
theorem aav(l:List bY)(h:∀o∈l,o.p.id.1<=1000000):∀k,k<=l.length->0<=pu (l.take k)/\pu (l.take k)<=1000000
 |0,_=>by simp[pu]
 |k+1,a=>by have :=aav l h k (by omega);have :=h l[k] (dB _);rw[aau (by omega)];omega
theorem kd{w:World}{base:Nat}{size:Nat}{b:List Value}(h:w.ownsRow base q size c a b){g o:Nat}(d:c.ownBlock≠some g)(u:Value):(w.setCell (K g o) u).ownsRow base q size c a b:=by
 refine⟨h.1,?_⟩;rcases h.2 with k|⟨e,f,i,rfl,j,l,rest⟩
 .simp_all
 exact .inr ⟨e,f,i,rfl,j,by rw[mn _ _ _ _ (by intro q;exact d (kq some q))];omega,rest⟩
theorem aaw{e:Option Nat}{base:Nat}{size:Nat}(h:b.ownsRow base q size c a w)(f:b.grownBy n e)(i:∀g,c.ownBlock=some g->some g≠e):n.ownsRow base q size c a w:=by
 refine⟨h.1,?_⟩;rcases h.2 with o|⟨d,j,k,rfl,l,m,rest⟩
 .simp_all
 exact .inr ⟨d,j,k,rfl,l,by rw[f.block d (e8.1 m).1 (i d rfl)];omega,rest⟩
theorem air{i:Array Oper}{o:Oper}{a:Act}{d:Act->World->Prop}{Q:Exit->Act->World->Prop}{E:Prop}(k:o.guard=none)(s x:Operand)(m:o.op=.call {callee:=.builtin .append,args:= #[s,x],argTypes:= #[255,255]})(v:Value)(l:List bY)(n:a.eval s=v)(p:b.ownsRow 0 233 15 v l.length (l.flatMap nf))(g c:Nat)(y:bY)(q:a.eval x=aa g 1 c)(r:∀j u,(nf y)[j]?=some u->b.cell? (K g j)=some u)(t:∀u∈nf y,u.oneCell'=true)(w:l.length<100000)(h:∀e f,f.ownsRow 0 233 15 e (l.length+1) ((l++[y]).flatMap nf)->b.grownBy f v.ownBlock->lB b v e->d (a.put o.dst e) f):
  if Region.wanted o (yielded i a.tmps)=true then Oper.wp prog o a b d Q else E:=
 AI nf 15 144 255 233 (.agg #[A 0,A 0,A 0,.bool false,A 0,A 0,.string ⟨#[]⟩,A 0,A 0,A 0,A 0,A 0,A 0,A 0,.slice none 0 0]) (by kernel_rfl) underlying255 rfl (by omega) (λ_=>rfl)
  k s x m 0 v l n p g c y q r t (by omega) (by unfold maxLen;omega) (b6 _) h
theorem fS.ais(f:fS b u e (aa l e D) c d i j h k)(g:a<e):b.cell? (K l a)=some (i a):=by rw[f.jt.cellAt a (by omega)];simp[g]
theorem fS.ait(g:fS b u e d (aa l e D) c i j h z)(m:a<e):b.cell? (K l (a*4))=some (h a 0):=by
 have :=jl (f:=λa=>[h a 0,h a 1,h a 2,h a 3]) (k:=4) (λ_=>rfl) g.ho (by simp) a (by simp_all) 0 (by omega)
 simp_all
theorem fS.aiu(g:fS b D a f c d i j h k)(n:e<a)(m:h e 0=aa u a U)(o:l<a):b.cell? (K u l)=some (A (k e l)):=by have :=g.hH e n;rw[m]at this;rw[this.cellAt l (by omega)];simp[o]
theorem aiv:∀j u,(nf M)[j]?=some u->(b.alloc (.cells #[A M.p.id.1,A M.p.id.2,A M.p.aM,.bool M.p.aS,A M.p.eT.1,A M.p.eT.2,.string M.p.key,A M.p.hx.1,A M.p.hx.2,A M.p.ik.1,A M.p.ik.2,A M.p.kW,A M.p.obj.1,A M.p.obj.2,M.ea] 233)).cell? (V b j)=some u:=by intro j u a;rw[YF _ _ _ _ rfl,<-a];simp[nf]
def aiw (e:World) (o:bY) (d:Value) (l:List bY) (f c:Nat) (wc:World):Prop:=
 ∃W a b,J e W/\W.grownBy a d.ownBlock/\lB W d b/\a.ownsRow 0 233 15 b (l.length+1) ((l++[o]).flatMap nf)/\wc=a.setCell (K f c) b
theorem aax(f:J b n)(h:n.grownBy s c.ownBlock)(g:a<b.heap.size)(i:a≠e)(j:some a≠c.ownBlock):(s.setCell (K e l) d).heap[a]?=b.heap[a]?:=by rw[mn _ _ _ _ i,h.block a (c0 g f.size) j,f.block a g]
theorem GF{v':Value}{gO c:Nat}(h:J b n)(i:n.grownBy s d.ownBlock)(g:b.cell? (K e l)=some f)(j:e≠gO)(k:some e≠d.ownBlock):(s.setCell (K gO c) v').cell? (K e l)=some f:=by rw[wo (w:=b) (a:=(K e l)) (aax h i (e7 b _ g) j k)];exact g
theorem aay{v':Value}{gO c:Nat}(f:J b n)(g:n.grownBy s d.ownBlock)(h:e<b.heap.size)(i:b.frozen? (K e l)=false)(j:e≠gO)(k:some e≠d.ownBlock):(s.setCell (K gO c) v').frozen? (K e l)=false:=by rw[YN (w:=b) (a:=(K e l)) (aax f g h j k)];exact i
theorem aix {W:World} {gO gH:Nat} {v' u0 u1:Value} {o:bY}
  (r:fS b u l (aa gO l D) c d i j h k) (aE:Apart l i h) (F:a<l) (C:h a 0=aa gH l U) (bo:J b s) (gw:J s W)
  (y:W.grownBy n (i a).ownBlock) (qS:lB W (i a) v') (Q:n.ownsRow 0 233 15 v' ((j a).length+1) ((j a++[o]).flatMap nf)) (X:fu b o.ea o.p.old) (ah:b.heap.size<=e) (Y:v'.ownBlock≠some e)
  (Et:(j a).length<60) (k2:k a a=(j a).length):
  lB b (i a) v'/\fS ((((n.setCell (K gO a) v').setCell (K gH a) (A ((k a a:Int)+1))).setCell (H e) u0).setCell (K e 1) u1) u l (aa gO l D) c d (upd i a v') (upd j a (j a++[o])) h (λv t=>if v=a/\t=a then k a a+1 else k v t)/\
   Apart l (upd i a v') h/\n.os=b.os/\n.tape=b.tape/\n.output=b.output/\b.heap.size<=n.heap.size/\
   (∀q,q<b.heap.size->q≠gO->q≠gH->some q≠(i a).ownBlock->((((n.setCell (K gO a) v').setCell (K gH a) (A ((k a a:Int)+1))).setCell (H e) u0).setCell (K e 1) u1).heap[q]?=b.heap[q]?):=by
 have x:=bp bo gw;obtain⟨avL,z⟩:=b0 r.jt (g:=gO) rfl;obtain⟨TT,B⟩:=b0 (r.hH a F) (g:=gH) (by rw[C];rfl);have hOl:=(e8.1 z).1;have hHl:=(e8.1 B).1;have TU:gO≠gH:=by intro m;subst m;exact absurd (cQ z B) (by decide)
 have E:∀(g:Nat) (M:Array Value) (m:TypeId) (f:Nat×Nat),b.heap[g]?=some (.cells M m f)->m≠233->some g≠(i a).ownBlock:=λg M m f w he e'=>by obtain⟨Px,Cx⟩:=b0 (r.fa a F).1 e'.symm;exact he (cQ w Cx)
 have N:∀q,q<b.heap.size->q≠gO->q≠gH->some q≠(i a).ownBlock->((((n.setCell (K gO a) v').setCell (K gH a) (A ((k a a:Int)+1))).setCell (H e) u0).setCell (K e 1) u1).heap[q]?=b.heap[q]?:=by intro q R P S ax;rw[mn _ _ _ _ (by show q≠e;omega),mn _ _ _ _ (by show q≠e;omega),mn _ _ _ _ S,mn _ _ _ _ P,y.block q (by have :=x.size;omega) ax,x.block q R]
 have dJ:lB b (i a) v':=by
  rcases qS with I|I
  .exact .inl I
  exact .inr λq R=>by have :=I q R;have :=x.size;omega
 have hbv:=λg w=>(cX (r.fa a F).1 g w).2
 have I5:v'.ownBlock≠some gO:=by intro m;obtain⟨M,L⟩:=b0 Q m;rw[y.block gO (by have :=x.size;omega) (E gO _ _ _ z (by decide)),x.block gO hOl]at L;exact absurd (cQ z L) (by decide)
 have Eu:v'.ownBlock≠some gH:=by intro m;obtain⟨M,L⟩:=b0 Q m;rw[y.block gH (by have :=x.size;omega) (E gH _ _ _ B (by decide)),x.block gH hHl]at L;exact absurd (cQ B L) (by decide)
 have Ev:=aaw (dI r.jt x) y (λg w=>by
  have m:g=gO:=by simp[Value.ownBlock]at w;omega
  rw[m];exact E gO _ _ _ z (by decide))
 have hH3:=aaw (dI (r.hH a F) x) y (λg w=>by
  have m:g=gH:=by rw[C]at w;simp[Value.ownBlock]at w;omega
  rw[m];exact E gH _ _ _ B (by decide))
 have key:=fS.add (W:=(((n.setCell (K gO a) v').setCell (K gH a) (A ((k a a:Int)+1))).setCell (H e) u0).setCell (K e 1) u1) (gO:=gO) (gH:=gH) (v':=v') (o:=o) r aE F rfl (by rw[C];rfl) ?_ ?_ ?_ ?_ ?_ N dJ Et k2
 .exact⟨dJ,key.1,key.2,y.os.trans x.os,y.tape.trans x.tape,y.output.trans x.output,by have :=y.size;have :=x.size;omega,N⟩
 .refine kd (kd (kd (YM Ev a v').1 ?_ _) ?_ _) ?_ _<;>(intro m;simp[Value.ownBlock]at m;omega)
 .have P:=kd (o:=a) hH3 (g:=gO) (by rw[C];intro m;simp[Value.ownBlock]at m;omega) v';have S:((n.setCell (K gO a) v').setCell (K gH a) (A ((k a a:Int)+1))).ownsRow 0 3 1 (h a 0) l (((List.range l).map λt=>A (k a t)).set a (A ((k a a:Int)+1))):=by rw[C]at P⊢;exact(YM P a _).1
  refine kd (kd S ?_ _) ?_ _<;>(rw[C];intro m;simp[Value.ownBlock]at m;omega)
 .exact kd (kd (kd (kd Q I5 _) Eu _) Y _) Y _
 .refine⟨X.1,?_⟩;rcases X.2 with I|⟨g,cap,cur,av,ez,w,rest⟩
  .exact .inl I
  refine .inr ⟨g,cap,cur,av,ez,?_,rest⟩;rw[N g (e8.1 w).1 (by intro m;subst m;exact absurd (cQ w z) (by decide)) (by intro m;subst m;exact absurd (cQ w B) (by decide)) (E g _ _ _ w (by decide))];exact w
 intro g cur w;exact N g (e8.1 w).1 (by intro m;subst m;exact absurd (cQ w z) (by decide)) (by intro m;subst m;exact absurd (cQ w B) (by decide)) (E g _ _ _ w (by decide))
theorem aiy {cp:Nat->Nat->Value} (h:fS b l e d f r i j cp k) (aE:Apart e i cp) (c:Nat) (E:c<e)
  (Et:(j c).length<60) (k2:k c c=(j c).length) (nS:∀o∈kx j (k c) e,o.p.id.1<=1000000)
  (i1 i2 X Y eI av aD fD fx n v1 v2:Int) (a6:Bool) (key:ByteArray) (ea:Value) (Q:List PId) (hold:fu b ea Q):
  O 145 #[Z l,A c,.agg #[A i1,A i2,A X,.bool a6,A Y,A eI,.string key,A av,A aD,A fD,A fx,A n,A v1,A v2,ea]] b λs w'=>
   s=ad (.agg #[A (pu (kx j (k c) e)+1),A c])/\∃v',lB b (i c) v'/\
    fS w' l e d f r (upd i c v') (upd j c (j c++[⟨⟨(pu (kx j (k c) e)+1,c),X,a6,(Y,eI),key,(av,aD),(fD,fx),n,(v1,v2),Q⟩,ea⟩])) cp (λx w=>if x=c/\w=c then k c c+1 else k x w)/\
    Apart e (upd i c v') cp/\w'.os=b.os/\w'.tape=b.tape/\w'.output=b.output/\b.heap.size<=w'.heap.size/\
    (∀q,q<b.heap.size->some q≠d.ownBlock->some q≠(cp c 0).ownBlock->some q≠(i c).ownBlock->w'.heap[q]?=b.heap[q]?):=by
 obtain⟨gO,rD,dy,fy,rfl,rfl,Gy,Cr,Pk,Pl⟩:=h.row (by omega);obtain⟨N,oV,eM,IY,Pm⟩:=h.Gx E;obtain⟨jO,co,rfl,_,_,_⟩:=bz hold;have hN:=h.hN;have hLl:=Pj j (k c) e (λw hi=>h.cw w hi);have R:=ag h;clear h;have dS:=ag aE;clear aE;have zf:=ag hold;clear hold;clear Pk Pl Pm;have Cy:=ag eM;clear eM;have aiz:=ag k2;clear k2;have sw:=ag (aav (kx j (k c) e) nS);clear nS;generalize hLL:kx j (k c) e=GG at *;have Cz:=ag hLL;clear hLL;generalize aaz:pu GG=GH;have aaA:=ag aaz;clear aaz;go_enter func145,ntmps145;go_wp2_with fail
 have bE:Hq (J b ((b.alloc (.cells #[A i1,A i2,A X,.bool a6,A Y,A eI,.string key,A av,A aD,A fD,A fx,A n,A v1,A v2,.slice jO Q.length co] 233)).alloc (af 0 0))):=(aV b _).alloc (by simp) _;refine(ZZ (R.o.ak bE.o) c E).mono ?_;rintro s w1 ⟨v,rfl,fa,B⟩;rw[Cz.o]at fa;have L:=ak (a:=(V b 0)) (v:=A i1) B (by simp[go_sem]);have M:=ak (a:=(V b 1)) (v:=A i2) B (by simp[go_sem]);have mR:=ak (a:=(V b 2)) (v:=A X) B (by simp[go_sem]);have pw:=ak (a:=(V b 3)) (v:=.bool a6) B (by simp[go_sem]);have uc:=ak (a:=(V b 4)) (v:=A Y) B (by simp[go_sem]);have Py:=ak (a:=(V b 5)) (v:=A eI) B (by simp[go_sem]);have Gs:=ak (a:=(V b 6)) (v:=.string key) B (by simp[go_sem]);have Pz:=ak (a:=(V b 7)) (v:=A av) B (by simp[go_sem]);have PA:=ak (a:=(V b 8)) (v:=A aD) B (by simp[go_sem]);have PB:=ak (a:=(V b 9)) (v:=A fD) B (by simp[go_sem]);have PC:=ak (a:=(V b 10)) (v:=A fx) B (by simp[go_sem]);have IL:=ak (a:=(V b 11)) (v:=A n) B (by simp[go_sem]);have IM:=ak (a:=(V b 12)) (v:=A v1) B (by simp[go_sem]);have IN:=ak (a:=(V b 13)) (v:=A v2) B (by simp[go_sem]);have AF:=ak (a:=(V b 14)) (v:=.slice jO Q.length co) B (by simp[go_sem]);have z0:=ak (a:=(H (b.heap.size+1))) (v:=A 0) B (by simp[go_sem]);have z1:=ak (a:=(K (b.heap.size+1) 1)) (v:=A 0) B (by simp[go_sem]);have fz0:∀t,w1.frozen? (V b t)=false:=λt=>by rw[B.frozen (p:=(V b t)) (by simp;omega)];simp[go_sem]
 have fz1:∀t,w1.frozen? (K (b.heap.size+1) t)=false:=λt=>by rw[B.frozen (p:=(K (b.heap.size+1) t)) (by simp)];simp[go_sem]
 have hz1:b.heap.size+2<=w1.heap.size:=by have :=B.size;simp at this;omega
 have k4:J b w1:=bE.o.trans (B.mono (by simp;omega));have eO:=ag k4;clear k4 B bE;obtain⟨bh,lc,rfl,kt,AP,I6⟩:=bz fa.1;unfold maxLen at AP;have aiA:=ag fa;clear fa;have zr:=ag I6;clear I6;go_wp2;go_loop [8,9] (λm w=>∃q:Nat,q<=GG.length/\w=A q/\m=A (pu (GG.take q))) (λ_ w=>GG.length-(intOf w).toNat)
 case atStart=>exact⟨0,b6 _,rfl,rfl⟩
 case round=>
  obtain⟨q,hk,rfl,rfl⟩:=hrel;by_cases aL:q<GG.length
  .obtain⟨g,rfl⟩:=zr.o q aL;have fI:=lk.cell aiA.o rfl q aL 0 (by omega);simp only[nf,Aw,r9]at fI;have HMX:=ag (aau aL);by_cases oT:pu (GG.take q)<GG[q].p.id.1
   .go_wp2;go_round
    case rel=>exact⟨q+1,by omega,by go_num,by rw[HMX.o,bn oT]⟩
    case measure=>simp[intOf];omega
   go_wp2;go_round
   case rel=>exact⟨q+1,by omega,by go_num,by rw[HMX.o,a7 oT]⟩
   case measure=>simp[intOf];omega
  have Lw:=sw.o q hk;rw[kp (by omega)]at Lw;rw[kp (by omega)];rw[aaA.o]at Lw;rw[aaA.o];go_wp2;obtain⟨z,C⟩:∃z,z=(w1.setCell (V b 0) (A (GH+1))).setCell (V b 1) (A c):=⟨_,rfl⟩;rw[<-C];have gX:z.cell? (V b 0)=some (A (GH+1)):=by rw[C];simp[go_sem,L,L,M]
  have q1:z.cell? (V b 1)=some (A c):=by rw[C];simp[go_sem,M,L,M]
  have h4:z.cell? (V b 2)=some (A X):=by rw[C];simp[go_sem,mR,L,M]
  have wB:z.cell? (V b 3)=some (.bool a6):=by rw[C];simp[go_sem,pw,L,M]
  have AQ:z.cell? (V b 4)=some (A Y):=by rw[C];simp[go_sem,uc,L,M]
  have wJ:z.cell? (V b 5)=some (A eI):=by rw[C];simp[go_sem,Py,L,M]
  have avj:z.cell? (V b 6)=some (.string key):=by rw[C];simp[go_sem,Gs,L,M]
  have avk:z.cell? (V b 7)=some (A av):=by rw[C];simp[go_sem,Pz,L,M]
  have avl:z.cell? (V b 8)=some (A aD):=by rw[C];simp[go_sem,PA,L,M]
  have avm:z.cell? (V b 9)=some (A fD):=by rw[C];simp[go_sem,PB,L,M]
  have q10:z.cell? (V b 10)=some (A fx):=by rw[C];simp[go_sem,PC,L,M]
  have q11:z.cell? (V b 11)=some (A n):=by rw[C];simp[go_sem,IL,L,M]
  have q12:z.cell? (V b 12)=some (A v1):=by rw[C];simp[go_sem,IM,L,M]
  have q13:z.cell? (V b 13)=some (A v2):=by rw[C];simp[go_sem,IN,L,M]
  have q14:z.cell? (V b 14)=some (.slice jO Q.length co):=by rw[C];simp[go_sem,AF,L,M]
  have y0:z.cell? (H (b.heap.size+1))=some (A 0):=by rw[C];simp[go_sem,z0]
  have y1:z.cell? (K (b.heap.size+1) 1)=some (A 0):=by rw[C];simp[go_sem,z1]
  have pt:∀t,z.frozen? (K (b.heap.size+1) t)=false:=λt=>by rw[C];simp[go_sem,fz1]
  have bo:J b z:=by rw[C];exact(eO.o.setCell (bW _) _).setCell (bW _) _
  have hz2:b.heap.size+2<=z.heap.size:=by rw[C];simpa[World.setCell]using hz1
  clear C L M mR pw uc Py Gs Pz PA PB PC IL IM IN AF z0 z1 fz0 fz1;have D:=ag (R.o.ak bo);have bm:=D.o.bm;have bq:=D.o.bq;have TV:=D.o.ais E;have TW:=D.o.ait E;have PD:=D.o.aiu E Cy.o E;rw[Cy.o]at TW;obtain⟨cq,cf,Ew,_,_,_⟩:=bz (D.o.fa c E).1;rw[Ew]at TV;have HVC:=ag Ew;clear Ew;have qR:l<b.heap.size:=(e8.1 R.o.aP).1;have hOl:gO<b.heap.size:=(cX R.o.jt gO rfl).2;have TX:dy<b.heap.size:=(cX R.o.ho dy rfl).2;have hHl:N<b.heap.size:=(cX (R.o.hH c E) N (by rw[Cy.o];rfl)).2;obtain⟨avL,wH⟩:=b0 D.o.jt (g:=gO) rfl;obtain⟨awa,PE⟩:=b0 D.o.ho (g:=dy) rfl;obtain⟨TT,wI⟩:=b0 (D.o.hH c E) (g:=N) (by rw[Cy.o];rfl);have hOr:gO≠l:=by intro s;subst s;exact absurd (cQ wH D.o.aP) (by decide)
  have hOC:gO≠dy:=by intro s;subst s;exact absurd (cQ wH PE) (by decide)
  have TU:gO≠N:=by intro s;subst s;exact absurd (cQ wH wI) (by decide)
  have hHr:N≠l:=by intro s;subst s;exact absurd (cQ wI D.o.aP) (by decide)
  have hHC:N≠dy:=by intro s;subst s;exact absurd (cQ wI PE) (by decide)
  have Lx:Hq (∀(g:Nat) (cs:Array Value) (s:TypeId) (y:Nat×Nat),z.heap[g]?=some (.cells cs s y)->s≠233->some g≠(i c).ownBlock):=λg cs s y aq he e'=>by obtain⟨Px,Cx⟩:=b0 (D.o.fa c E).1 e'.symm;exact he (cQ aq Cx)
  have zp:=ag (aN wH (aN PE wI));clear wH PE wI;have bF:=ag bo;clear bo;have sx:=D.o.eb c c E E;have cw:=D.o.cw c E;have ud:z.frozen? (K gO c)=false:=SD D.o.jt c;have ti:z.frozen? (K N c)=false:=by have :=D.o.hH c E;rw[Cy.o]at this;exact SD this c
  have at8:gO<z.heap.size:=by omega
  have TY:l<z.heap.size:=by omega
  have aiB:b.heap.size<z.heap.size:=by omega
  have Ly:=ag (Lx.o gO _ _ _ zp.o.1 (by decide));have qT:=ag (Lx.o l _ _ _ D.o.aP (by decide));go_cut [52] (λ_ wc=>aiw z ⟨⟨(GH+1,c),X,a6,(Y,eI),key,(av,aD),(fD,fx),n,(v1,v2),Q⟩,.slice jO Q.length co⟩ (i c) (j c) gO c wc)
  case first =>
   go_region_law (refine air rfl (.tmp 49) (.tmp 51) rfl (.slice cq (j c).length cf) (j c) (by simp[Act.eval,Act.put]) ?h1 z.heap.size 1 ⟨⟨(GH+1,c),X,a6,(Y,eI),key,(av,aD),(fD,fx),n,(v1,v2),Q⟩,.slice jO Q.length co⟩ (by simp[Act.eval,Act.put]) ?h2 ?ax ?a8 ?_;(case h1=>rw[<-HVC.o];exact(D.o.fa c E).1.alloc _);(case h2=>exact aiv);(case ax=>exact λu hu=>by simp[nf]at hu;rcases hu with rfl|rfl|rfl|rfl|rfl|rfl|rfl|rfl|rfl|rfl|rfl|rfl|rfl|rfl|rfl<;>rfl);(case a8=>omega);intro v' S ij F qS;rw[<-HVC.o]at F qS;have I:J z (z.alloc (.cells #[A (GH+1),A c,A X,.bool a6,A Y,A eI,.string key,A av,A aD,A fD,A fx,A n,A v1,A v2,.slice jO Q.length co] 233)).drew:=(aV z _).drew;have jx:=ag (aN I (aN F (aN qS ij)));obtain⟨a3,ce,jM,_,_,_⟩:=bz ij;subst jM;have kO':S.cell? (K gO c)=some (.slice cq (j c).length cf):=F.cell (ak I TV) Ly.o;have fO':S.frozen? (K gO c)=false:=(YN (a:=(K gO c)) (F.block gO (by have :=I.size;omega) Ly.o)).trans ((I.frozen (p:=(K gO c)) (by show gO<_;omega)).trans ud);have PF:S.cell? (K l 1)=some (aa gO e rD):=F.cell (ak I bm) qT.o;clear qS ij I F)
   all_goals(go_wp2_with fail;go_meet)
   all_goals exact⟨_,S,_,jx.o.1,jx.o.2.1,jx.o.2.2.1,jx.o.2.2.2,rfl⟩
  case rest=>
   obtain⟨W,S,v',I,F,qS,ij,P⟩:=hcut;have HNr:=ag (Lx.o l _ _ _ D.o.aP (by decide));have TZ:=ag (Lx.o dy _ _ _ zp.o.2.1 (by decide));have PG:=ag (Lx.o N _ _ _ zp.o.2.2 (by decide));have AR:∀g,(i c).ownBlock=some g->g<b.heap.size:=λg aq=>(cX (R.o.fa c E).1 g aq).2
   have wK:=ag (show ∀q,b.heap.size<=q->some q≠(i c).ownBlock from λq hk s=>by have :=AR q s.symm;omega);have d2:=GF (c:=c) (v':=v') (gO:=gO) I F bq hOr.symm HNr.o;rw[<-P]at d2;have avM:=GF (c:=c) (v':=v') (gO:=gO) I F TW hOC.symm TZ.o;rw[<-P]at avM;have avN:=GF (c:=c) (v':=v') (gO:=gO) I F PD TU.symm PG.o;rw[<-P]at avN;have awb:wc.frozen? (K N c)=false:=by rw[P];exact aay I F (by omega) ti TU.symm PG.o
   have t0:=GF (c:=c) (v':=v') (gO:=gO) I F gX (by omega) (wK.o _ (by omega));rw[<-P]at t0;have t1:=GF (c:=c) (v':=v') (gO:=gO) I F q1 (by omega) (wK.o _ (by omega));rw[<-P]at t1;have x0:=GF (c:=c) (v':=v') (gO:=gO) I F y0 (by omega) (wK.o _ (by omega));rw[<-P]at x0;have x1:=GF (c:=c) (v':=v') (gO:=gO) I F y1 (by omega) (wK.o _ (by omega));rw[<-P]at x1;have awc:∀t,wc.frozen? (K (b.heap.size+1) t)=false:=λt=>by rw[P];exact aay I F (by omega) (pt t) (by omega) (wK.o _ (by omega))
   have bR:=ag (aN I (aN F (aN qS (aN ij P))));clear I F qS ij P AR;clear bm bq TV TW PD gX q1 h4 wB AQ wJ avj avk avl avm q10 q11 q12 q13 q14 y0 y1 pt ud ti;have IR:N≠b.heap.size:=by omega
   have aiC:N≠b.heap.size+1:=by omega
   have HBO:=ag (show v'.ownBlock≠some (b.heap.size+1) from λs=>by
    rcases bR.o.2.2.1 with hn|hn
    .have :=(cX (R.o.fa c E).1 (b.heap.size+1) (by rw[<-hn];exact s)).2;omega
    have :=hn _ s;have :=bR.o.1.size;omega)
   go_wp2;have U:=aix (u0:=A (GH+1)) (u1:=A c) R.o dS.o E Cy.o bF.o bR.o.1 bR.o.2.1 bR.o.2.2.1 bR.o.2.2.2.1 zf.o (oe _) HBO.o Et aiz.o;rw[<-bR.o.2.2.2.2]at U;have I7:wc.os=S.os/\wc.tape=S.tape/\wc.output=S.output/\wc.heap.size=S.heap.size:=by rw[bR.o.2.2.2.2];simp[World.setCell]
   refine ey (v:=.agg #[A (GH+1),A c]) (by simp[results,results145,go_sem,x0,x1]) rfl ⟨rfl,v',U.1,U.2.1,U.2.2.1,?_,?_,?_,?_,?_⟩
   .exact I7.1.trans U.2.2.2.1
   .exact I7.2.1.trans U.2.2.2.2.1
   .exact I7.2.2.1.trans U.2.2.2.2.2.1
   .have :=U.2.2.2.2.2.2.1;have :=I7.2.2.2;simp[World.setCell];omega
   intro q hk h1 h2 ax;refine U.2.2.2.2.2.2.2 q hk ?_ ?_ ax
   .intro s;exact h1 (by rw[s];rfl)
   intro s;exact h2 (by rw[s,Cy.o];rfl)
structure Lz (w w':World) (r N:Nat) (ba aW bc:Value) (bi:Nat->Value) (cops:Nat->List bY) (cp:Nat->Nat->Value) (ai:Nat->Nat->Nat) (c:Nat) (o:bY) (v':Value):Prop where
 new:lB w (bi c) v'
 bN:fS w' r N ba aW bc (upd bi c v') (upd cops c (cops c++[o])) cp (λd i=>if d=c/\i=c then ai c c+1 else ai d i)
 ke:Apart N (upd bi c v') cp
 os:w'.os=w.os
 tape:w'.tape=w.tape
 output:w'.output=w.output
 size:w.heap.size<=w'.heap.size
 other:∀k,k<w.heap.size->some k≠ba.ownBlock->some k≠(cp c 0).ownBlock->some k≠(bi c).ownBlock->w'.heap[k]?=w.heap[k]?
structure nT (w:World) (r N:Nat) (ba aW bc:Value) (bi:Nat->Value) (cops:Nat->List bY) (cp:Nat->Nat->Value) (ai:Nat->Nat->Nat) (c:Nat) (S:List bT):Prop extends Shown w r N ba aW bc bi cops cp ai c S where
 ke:Apart N bi cp
 all:ai c c=(cops c).length
 iY:∀o∈kx cops (ai c) N,o.p.id.1<=1000000
theorem nT.jy{w':World}(g:nT b a e c d f i j h k l m)(n:J b w'):nT w' a e c d f i j h k l m:=
 {g.toShown.ak n with ke:=g.ke,all:=g.all,iY:=g.iY}
theorem aiD (g:nT b l e c d f i j h k a m) (I:(j a).length<60)
  (E F q r s t u v w n x y:Int) (z:Bool) (B:ByteArray) (p:Value) (C:List PId) (L:fu b p C):
  O 145 #[Z l,A a,.agg #[A E,A F,A q,.bool z,A r,A s,.string B,A t,A u,A v,A w,A n,A x,A y,p]] b λo M=>o=ad (.agg #[A (pu (kx j (k a) e)+1),A a])/\∃D,Lz b M l e c d f i j h k a ⟨⟨(pu (kx j (k a) e)+1,a),q,z,(r,s),B,(t,u),(v,w),n,(x,y),C⟩,p⟩ D:=
 (aiy g.bN g.ke a g.hc I g.all g.iY E F q r s t u v w n x y z B p C L).mono λ_ _ ⟨N,D,P,Q,R,S,U,W,X,Y⟩=>⟨N,D,P,Q,R,S,U,W,X,Y⟩
theorem aiE{cops:Nat->List bY}{ai F:Nat->Nat}{N:Nat}(h:a<N)(d:ai a=(cops a).length)(f:F a=ai a+1)(hF:∀i,i≠a->F i=ai i)(o:bY):
  (kx (upd cops a (cops a++[o])) F N).Perm (kx cops ai N++[o]):=by
 have g:∀k,k<=N->(kx (upd cops a (cops a++[o])) F k).Perm (kx cops ai k++if a<k then[o] else[]):=by
  intro k
  induction k with
  |zero=>intro _;simp[kx]
  |succ k ih=>
   intro j;rw[Ph,Ph];have b:=ih (by omega);by_cases e:k=a
   .subst e;rw[a7 (by omega),oM]at b;rw[bn (by omega),bL,f,d,kp (by simp),kp (bW _),kr];exact b.append_right _
   rw[ch _ _ e,hF k e];by_cases c:a<k
   .rw[bn c]at b;rw[bn (by omega)];refine(b.append_right _).trans ?_;rw[kr,kr];exact YR _ YS
   rw[a7 c,oM]at b;rw[a7 (by omega),oM];exact b.append_right _
 have :=g N (bW _)
 simp_all
theorem aiF(l:List bY):∀o∈l,o.p.id.1<=pu l:=by
 have b:∀(l:List bY) (m:Int),m<=l.foldl (λm o=>if m<o.p.id.1 then o.p.id.1 else m) m/\∀o∈l,o.p.id.1<=l.foldl (λm o=>if m<o.p.id.1 then o.p.id.1 else m) m:=by
  intro l
  induction l with
  |nil=>intro m;simp
  |cons x l ih=>
   intro m;have h:=ih (if m<x.p.id.1 then x.p.id.1 else m);rw[Iz];refine⟨Cg ?_ h.1,λo a=> ?_⟩
   .omega
   rcases ft.1 a with rfl|a
   .omega
   simp_all
 exact(b l 0).2
theorem Lz.next {w':World} {N:Nat} {cops:Nat->List bY} {ai:Nat->Nat->Nat} {o:bY}
  (j:nT b l N c d f i cops h ai e m) (s:Lz b w' l N c d f i cops h ai e o r) (t:o.p.id=(pu (kx cops (ai e) N)+1,(e:Int))) (E:pu (kx cops (ai e) N)<1000000):
  nT w' l N c d f (upd i e r) (upd cops e (cops e++[o])) h (λk g=>if k=e/\g=e then ai e e+1 else ai k g) e (m++[o.p]):=by
 have u:=aiE (cops:=cops) (ai:=ai e) (F:=λg=>if e=e/\g=e then ai e e+1 else ai e g) (N:=N) j.hc j.all (by simp) (λg w=>by simp[w]) o;have y:∀x∈kx (upd cops e (cops e++[o])) (λg=>if e=e/\g=e then ai e e+1 else ai e g) N,x∈kx cops (ai e) N\/x=o:=λx q=>by
  have :=u.mem_iff.1 q
  simp_all
 have z:∀p∈m,p.id.1<=pu (kx cops (ai e) N):=λp B=>by obtain⟨x,q,rfl⟩:=dF.1 (j.perm.mem_iff.1 B);exact aiF _ x q
 refine{bN:=s.bN,hc:=j.hc,perm:= ?_,sort:= ?_,ke:=s.ke,all:= ?_,iY:= ?_}
 .refine(j.perm.append_right [o.p]).trans ?_;rw[show(kx cops (ai e) N).map bY.p++[o.p]=(kx cops (ai e) N++[o]).map bY.p by simp];exact(u.map _).symm
 .unfold Co;rw[xQ];refine⟨j.sort,by simp,λa C n v=> ?_⟩;simp at v;subst v;have :=z a C;rw[t];simp[qM];omega
 .simp[bL,j.all]
 intro x q;rcases y x q with D|rfl
 .exact j.iY x D
 rw[t];omega
def ct (S:List bT):Int:=S.foldl (λm p=>if m<p.id.1 then p.id.1 else m) 0
theorem aiG(l:List bY):pu l=ct (l.map bY.p):=by unfold pu ct;rw[List.foldl_map]
theorem LA(S:List bT):0<=ct S/\(∀p∈S,p.id.1<=ct S)/\(ct S=0\/∃p∈S,p.id.1=ct S):=by
 have c:∀(S:List bT) (m:Int),m<=S.foldl (λm p=>if m<p.id.1 then p.id.1 else m) m/\(∀p∈S,p.id.1<=S.foldl (λm p=>if m<p.id.1 then p.id.1 else m) m)/\
   (S.foldl (λm p=>if m<p.id.1 then p.id.1 else m) m=m\/∃p∈S,p.id.1=S.foldl (λm p=>if m<p.id.1 then p.id.1 else m) m):=by
  intro S
  induction S with
  |nil=>intro m;simp
  |cons x S ih=>
   intro m;obtain⟨d,e,a⟩:=ih (if m<x.id.1 then x.id.1 else m);rw[Iz];refine⟨Cg ?_ d,λp b=> ?_,?_⟩
   .omega
   .rcases ft.1 b with rfl|b
    .omega
    simp_all
   rcases a with a|⟨p,b,a⟩
   .rw[a];split
    .simp
    simp
   exact .inr ⟨p,jk _ b,a⟩
 exact c S 0
theorem aiH{a:List bT}(h:m.Perm a):ct m=ct a:=by
 obtain⟨g,e,b⟩:=LA m;obtain⟨i,f,c⟩:=LA a;refine Int.le_antisymm ?_ ?_
 .rcases b with b|⟨p,d,b⟩
  .omega
  rw[<-b];exact f p (h.mem_iff.1 d)
 rcases c with c|⟨p,d,c⟩
 .omega
 rw[<-c];exact e p (h.mem_iff.2 d)
theorem LB(S:List bT)(o:bT)(h:o.id.1=ct S+1):ct (S++[o])=ct S+1:=by show(S++[o]).foldl (λm p=>if m<p.id.1 then p.id.1 else m) 0=ct S+1;rw[Ax];show(if ct S<o.id.1 then o.id.1 else ct S)=ct S+1;omega
theorem Shown.top(g:Shown b l a c d f i j h k e m):pu (kx j (k e) a)=ct m:=by rw[aiG];exact(aiH g.perm).symm
structure h5 (w w':World) (r N:Nat) (ba aW bc:Value) (bi:Nat->Value) (cops:Nat->List bY) (cp:Nat->Nat->Value) (ai:Nat->Nat->Nat) (c:Nat) (S:List bT) (l:List bY) (e5:Nat->Value) (e6:Nat->List bY) (has':Nat->Nat->Nat):Prop where
 wr:nT w' r N ba aW bc e5 e6 cp has' c (S++l.map bY.p)
 ar:e6=upd cops c (cops c++l)
 aj:has'=λd i=>if d=c/\i=c then ai c c+l.length else ai d i
 aK:∀i,i≠c->e5 i=bi i
 new:lB w (bi c) (e5 c)
 GI:∀o∈l,∀k,o.ea.ownBlock=some k->w.heap.size<=k
 os:w'.os=w.os
 tape:w'.tape=w.tape
 output:w'.output=w.output
 size:w.heap.size<=w'.heap.size
 other:∀k,k<w.heap.size->some k≠ba.ownBlock->some k≠(cp c 0).ownBlock->some k≠(bi c).ownBlock->w'.heap[k]?=w.heap[k]?
theorem h5.aiI (o:nT b e l c d f i j h k a m) (u:Lz b s e l c d f i j h k a M r) (x:M.p.id=(ct m+1,(a:Int))) (y:ct m<1000000) (v:J n b) (F:∀g,M.ea.ownBlock=some g->n.heap.size<=g):
  h5 n s e l c d f i j h k a m [M] (upd i a r) (upd j a (j a++[M])) (λt q=>if t=a/\q=a then k a a+1 else k t q):=
 {wr:=Lz.next o u (by rw[o.toShown.top];exact x) (by rw[o.toShown.top];exact y)
  ar:=rfl
  aj:=rfl
  aK:=λq z=>ch _ _ z
  new:=by rw[bL];exact u.new.imp id λB g w=>cd v.size (B g w)
  GI:=λI L g w=>by simp_all
  os:=u.os.trans v.os,tape:=u.tape.trans v.tape,output:=u.output.trans v.output,size:=cd v.size u.size
  other:=λg w C D E=>by rw[u.other g (c0 w v.size) C D E,v.block g w]}
theorem h5.trans{w s w' r N l m n t u v x y z cp ai B C c S q D}(a:h5 w s r N l m n t x cp ai c S q u y B)(b:h5 s w' r N l m n u y cp B c (S++q.map bY.p) D v z C):
  h5 w w' r N l m n t x cp ai c S (q++D) v z C:=by
 refine{wr:=by rw[ga,<-kr];exact b.wr,ar:= ?_,aj:= ?_,aK:=λi E=>(b.aK i E).trans (a.aK i E),new:= ?_,GI:= ?_,os:=b.os.trans a.os,tape:=b.tape.trans a.tape,output:=b.output.trans a.output,size:=cd a.size b.size,other:= ?_}
 .rw[b.ar,a.ar];funext i;by_cases e:i=c
  .subst e;simp[upd]
  simp[upd,e]
 .rw[b.aj,a.aj];funext d i;by_cases e:d=c/\i=c
  .simp only[e,SJ,hQ,dh];omega
  simp only[e,fM]
 .rcases b.new with h|h
  .rcases a.new with g|g
   .exact .inl (h.trans g)
   exact .inr λk f=>g k (by simp_all)
  exact .inr λk f=>cd a.size (h k f)
 .intro o j k f;rcases dZ.1 j with j|j
  .exact a.GI o j k f
  exact cd a.size (b.GI o j k f)
 intro k f F I L;rw[b.other k (c0 f a.size) F I ?_,a.other k f F I L];rcases a.new with g|g
 .simp_all
 intro e;have :=g k e.symm;omega
theorem h5.after(q:J b n)(g:h5 n s a e c d f i j h k l m C B y z):h5 b s a e c d f i j h k l m C B y z:=
 {g with new:=g.new.imp id λt p r=>cd q.size (t p r),GI:=λo u p r=>cd q.size (g.GI o u p r),os:=g.os.trans q.os,tape:=g.tape.trans q.tape,output:=g.output.trans q.output,size:=cd q.size g.size,other:=λp r v w x=>by rw[g.other p (c0 r q.size) v w x,q.block p r]}
theorem h5.before{c S}(g:h5 b n a e d f r i j h k c S C B y z)(m:J n s):h5 b s a e d f r i j h k c S C B y z:=
 {g with wr:=g.wr.jy m,os:=m.os.trans g.os,tape:=m.tape.trans g.tape,output:=m.output.trans g.output,size:=cd g.size m.size,other:=λl o p q t=>by rw[m.block l (c0 o g.size),g.other l o p q t]}
theorem h5.typed(o:nT b l u c d f i j h k a m)(g:h5 b n l u c d f i j h k a m C B y z)(r:b.heap[e]?=some (.cells N q v))(w:q≠255)(x:q≠3)(D:q≠233):n.heap[e]?=some (.cells N q v):=by
 rw[<-r];refine g.other e (e8.1 r).1 ?_ ?_ ?_
 .intro p;obtain⟨s,t⟩:=b0 o.bN.jt p.symm;simp_all
 .intro p;obtain⟨s,t⟩:=b0 (o.bN.hH a o.hc) p.symm;simp_all
 intro p;obtain⟨s,t⟩:=b0 (o.bN.fa a o.hc).1 p.symm;simp_all
theorem h5.row{w w' c}(p:nT w a e d f r i j h k c m)(b:h5 w w' a e d f r i j h k c m C B y z){base:Nat}{size:Nat}{v:Value}{n:List Value}(o:w.ownsRow base q size v l n)(s:q≠255)(t:q≠3)(u:q≠233):w'.ownsRow base q size v l n:=by
 refine⟨o.1,?_⟩;rcases o.2 with I|⟨g,x,D,rfl,E,F,rest⟩
 .simp_all
 exact .inr ⟨g,x,D,rfl,E,b.typed p F s t u,rest⟩
theorem h5.len{w w' r N c}(a:h5 w w' r N d f I i j h k c m C B y z):(y c).length=(j c).length+C.length:=by rw[a.ar,bL,dh]
theorem bD{w:World}{g:Nat}{a b:Value}{t:TypeId}(h:w.heap[g]?=some (.cells #[a,b] t v)):w.cell? (H g)=some a/\w.cell? (K g 1)=some b:=by simp[World.cell?,h]
theorem cV{w:World}{g:Nat}(h:w.heap[g]?=some (.cells N q))(j:Nat):w.frozen? (K g j)=false:=by simp[World.frozen?,h]
theorem aU{w:World}{g:Nat}{o:Obj}(h:w.heap[g]?=some o):g<w.heap.size:=(e8.1 h).1
theorem nm{o o':Obj}(h:b.heap[a]?=some o):(b.alloc o').heap[a]?=some o:=by show(b.heap.push o')[a]?=some o;rw[<-h,Array.getElem?_push,a7 (Nat.ne_of_lt (aU h))]
theorem bZ(w:World)(o:Obj):(w.alloc o).heap[w.heap.size]?=some o:=by show(w.heap.push o)[w.heap.size]?=some o;simp
theorem bB{w w':World}{g:Nat}{o:Obj}(h:w.heap[g]?=some o)(a:J w w'):w'.heap[g]?=some o:=by rw[a.block g (aU h)];exact h
theorem I9(w:World):fu w (.slice none 0 0) []:=hg _ _ _ _
theorem fS.cell{w ai}(b:fS w e a d f r i j h ai){g:Nat}{cs:Array Value}(y:w.heap[g]?=some (.cells cs 36))(z:∀k,k<a->∀o∈j k,o.ea.ownBlock≠some g)(m:Nat)(u:Value):fS (w.setCell (K g m) u) e a d f r i j h ai:=by
 have p:∀{base:Nat} {l:TypeId} {size:Nat} {v:Value} {n:Nat} {t:List Value},w.ownsRow base l size v n t->l≠36->v.ownBlock≠some g:=by
  intro base l size v n t q C B;obtain⟨D,E⟩:=b0 q B
  simp_all
 refine⟨?_,b.hN,kd b.jt (p b.jt (by decide)) u,λk s=>⟨kd (b.fa k s).1 (p (b.fa k s).1 (by decide)) u,λo q=>kd ((b.fa k s).2 o q) (z k s o q) u⟩,kd b.ho (p b.ho (by decide)) u,
  λc x=>kd (b.hH c x) (p (b.hH c x) (by decide)) u,b.eb,b.cw⟩
 rw[mn _ _ _ _ (by intro l;subst l;exact absurd (cQ b.aP y) (by decide))];exact b.aP
theorem h5.cell{w d r N f m n p s b t q ai v c S l}(y:nT w r N f m n p b q ai c S)(h:h5 w d r N f m n p b q ai c S l s t v){g:Nat}{cs:Array Value}(z:d.heap[g]?=some (.cells cs 36))(I:w.heap.size<=g)(L:∀o∈l,o.ea.ownBlock≠some g)(j:Nat)(u:Value):
  h5 w (d.setCell (K g j) u) r N f m n p b q ai c S l s t v:=by
 refine{h with wr:={h.wr with bN:=h.wr.bN.cell z ?_ j u},os:= ?_,tape:= ?_,output:= ?_,size:= ?_,other:= ?_}
 .intro i B o a e;rw[h.ar]at a;have M:∀o∈b i,o.ea.ownBlock≠some g:=λo a e=>by have :=(cX ((y.bN.fa i B).2 o a) g e).2;omega
  by_cases x:i=c
  .subst x;rw[bL]at a;rcases dZ.1 a with a|a
   .simp_all
   simp_all
  rw[ch _ _ x]at a
  simp_all
 .simpa[World.setCell]using h.os
 .simpa[World.setCell]using h.tape
 .simpa[World.setCell]using h.output
 .simpa[World.setCell]using h.size
 intro k C D E F;rw[mn _ _ _ _ (show k≠g by omega)];exact h.other k C D E F
theorem h5.res(s:nT b e l c d f i j h k u m)(p:h5 b n e l c d f i j h k u m C B y z)(q:n.heap[a]?=some (.cells #[I,r] 36))(t:b.heap.size<=a)(w:∀o∈C,o.ea.ownBlock≠some a)(g v:Value):
  h5 b ((n.setCell (H a) g).setCell (K a 1) v) e l c d f i j h k u m C B y z:=by
 refine(p.cell s q t w 0 g).cell s (cs:= #[g,r]) ?_ t w 1 v;obtain⟨_,x⟩:=e8.1 q;simp[World.setCell,aU q,xR,x]
theorem AS (P:J n b) (g:nT b e l c d f i j h k a m) (Q:(j a).length<60) (R:ct m=E) (S:E<1000000)
  (I L s t u v w x y o z B:Int) (C:Bool) (D:ByteArray) (r:Value) (F:List PId) (U:fu b r F) (W:∀p,r.ownBlock=some p->n.heap.size<=p):
  O 145 #[Z e,A a,.agg #[A I,A L,A s,.bool C,A t,A u,.string D,A v,A w,A x,A y,A o,A z,A B,r]] b λq X=>q=ad (.agg #[A (E+1),A a])/\∃Y e6 has',h5 n X e l c d f i j h k a m [⟨⟨(E+1,a),s,C,(t,u),D,(v,w),(x,y),o,(z,B),F⟩,r⟩] Y e6 has':=by
 subst R;refine(aiD g Q I L s t u v w x y o z B C D r F U).mono λ_ _ ⟨M,v',N⟩=> ?_
 rw[g.toShown.top]at M N;exact⟨M,_,_,_,h5.aiI g N rfl S P W⟩
theorem aiJ (n s:Int) (h:n<1\/4<n\/s<1\/50<s) (w:World):
  O 93 #[A n,A s] w λe a=>e=ad (.tuple #[.pointer none,A 1])/\a=w:=by
 by_cases b:n<1
 .go_enter func93,ntmps93;go_wp2;go_ret2
  simp
 by_cases c:4<n
 .go_enter func93,ntmps93;go_wp2;go_ret2
  simp
 by_cases d:s<1
 .go_enter func93,ntmps93;go_wp2;go_ret2
  simp
 have f:50<s:=by omega
 go_enter func93,ntmps93;go_wp2;go_ret2
 simp
def ot (N:Nat):Array Value:=madeCells (A 0).cells (N*1)
theorem LC(N:Nat)(f:N<=4)(W:World):(Instr.makeSlice 24 (.int .i64 (N:Int)) (.int .i64 (N:Int))).run prog W=.ok (.slice (some ⟨W.heap.size,0,none⟩) N N) (W.alloc (.cells (ot N) 3)):=by obtain⟨i,a,b,c,d⟩:=qH (P:=prog) (e:=3) (z:=.int .i64 0) (size:=1) (bytes:=8) (by kernel_rfl);have :=run_make (P:=prog) W 24 3 i (.int .i64 0) underlying24 a b .i64 .i64 N N (by omega) (D8 _) (by rw[d];omega) (by omega);rw[c]at this;simpa[ot]using this
def CB (N:Nat):Array Value:=madeCells (Value.agg #[.bool false,.slice none 0 0]).cells (N*2)
theorem aiK(N:Nat)(f:N<=4)(W:World):(Instr.makeSlice 226 (.int .i64 (N:Int)) (.int .i64 (N:Int))).run prog W=.ok (.slice (some ⟨W.heap.size,0,none⟩) N N) (W.alloc (.cells (CB N) 249)):=by obtain⟨i,a,b,c,d⟩:=qH (P:=prog) (e:=249) (z:=.agg #[.bool false,.slice none 0 0]) (size:=2) (bytes:=32) (by kernel_rfl);have :=run_make (P:=prog) W 226 249 i (.agg #[.bool false,.slice none 0 0]) underlying226 a b .i64 .i64 N N (by omega) (D8 _) (by rw[d];omega) (by omega);rw[c]at this;simpa[CB]using this
def one (v:Value):List Value:=[v]
theorem one_cell(h:b.cell? (H a)=some c):∀j u,(one c)[j]?=some u->b.cell? (K a j)=some u:=by
 intro j u d
 match j with
 |0=>simp[one]at d;simp_all
 |j+1=>simp[one]at d
theorem aaB{b:Option Addr}:∀u∈one (.slice b a e),u.oneCell'=true:=by intro u c;simp[one]at c;subst c;rfl
def AT (B:Nat) (w:World) (e:TypeId) (v:Value) (l:List Value):Prop:=w.ownsRow B e 1 v l.length (l.flatMap one)
def zeros (B:Nat) (w:World) (v:Value) (N:Nat):Prop:=w.ownsRow B 3 1 v N ((List.range N).map λ_=>A 0)
theorem aiL (h:b.ownsRow e 255 1 c a (madeCells (Value.slice none 0 0).cells (a*1)).toList):b.ownsRow e 255 1 c a ((List.range a).map λ_=>Value.slice none 0 0):=by
 have d:(madeCells (Value.slice none 0 0).cells (a*1)).toList=(List.range a).map λ_=>Value.slice none 0 0:=by show(madeCells #[Value.slice none 0 0] (a*1)).toList=_;rw[SH,xO];apply xN;intro j;by_cases f:j<a<;>simp[f]
 simp_all
theorem T0(w:World)(a b c:Obj):(((w.alloc a).alloc b).alloc c).drew.heap[w.heap.size]?=some a:=nm (nm (bZ w a))
theorem T1(w:World)(a b c:Obj):(((w.alloc a).alloc b).alloc c).drew.heap[w.heap.size+1]?=some b:=by
 have h:=nm (o':=c) (bZ (w.alloc a) b);have e:(w.alloc a).heap.size=w.heap.size+1:=by simp
 rw[e]at h;exact h
theorem T2(w:World)(a b c:Obj):(((w.alloc a).alloc b).alloc c).drew.heap[w.heap.size+1+1]?=some c:=by
 have h:=bZ ((w.alloc a).alloc b) c;have e:((w.alloc a).alloc b).heap.size=w.heap.size+1+1:=by simp
 rw[e]at h;exact h
theorem aiM(w:World)(a b c:Obj):J w (((w.alloc a).alloc b).alloc c).drew:=(((aV w _).alloc (by simp) _).alloc (by simp;omega) _).drew
theorem T3(h:b.heap[e]?=some (.cells (ot a) 3))(d:l<=e)(g:a<=4):zeros l b (aa e a a) a:=by
 have c:(ot a).toList=(List.range a).map λ_=>A 0:=by show(madeCells #[A 0] (a*1)).toList=_;rw[SH,xO];apply xN;intro j;by_cases f:j<a<;>simp[f]
 have i:(ot a).size=a:=by rw[<-afX,c];simp
 refine⟨by simp,.inr ⟨e,a,ot a,rfl,d,h,bW _,by unfold maxLen;omega,by omega,?_⟩⟩;rw[c,kp (by simp)]
theorem vn(h:b.heap[a]?=some (.cells #[d,f,r,c] q v)):b.cell? (K a 3)=some c:=by simp[World.cell?,h]
theorem aaC(h:b.heap[a]?=some (.cells #[d,f,c,r] q v)):b.cell? (K a 2)=some c:=by simp[World.cell?,h]
theorem x7(h:b.heap[a]?=some (.cells #[c,d,f,r] q v)):b.cell? (H a)=some c:=by simp[World.cell?,h]
theorem x8(h:b.heap[a]?=some (.cells #[d,c,f,r] q v)):b.cell? (K a 1)=some c:=by simp[World.cell?,h]
theorem AU(h:b.heap[a]?=some (.cells #[d,f,c,r] q v)):b.cell? (K a 2)=some c:=by simp[World.cell?,h]
theorem aiN{g h i:Option Addr}(j:c=.slice g a u)(k:d.oneCell'=true):∀b∈[c,.slice h e D,d,.slice i l U],b.oneCell'=true:=by
 intro b f;simp at f;rcases f with rfl|rfl|rfl|rfl
 .rw[j];rfl
 .rfl
 .exact k
 rfl
theorem PH(h:b.heap[a]?=some (.cells #[c,d,f,I] q)):(b.setCell (K a 3) r).heap[a]?=some (.cells #[c,d,f,r] q):=by obtain⟨_,e⟩:=e8.1 h;simp[World.setCell,aU h,xR,e]
theorem T4{u:Value}(h:b.heap[a]?=some (.cells #[c,d,r,f] q)):(b.setCell (K a 2) u).heap[a]?=some (.cells #[c,d,u,f] q):=by obtain⟨_,e⟩:=e8.1 h;simp[World.setCell,aU h,xR,e]
structure AV where
 a:Value
 b:Value
 c:Value
 d:Value
variable {L:List AV}
def eN (x:AV):List Value:=[x.a,x.b,x.c,x.d]
theorem aiO{x:AV}(h:n.heap[e]?=some (.cells #[x.a,x.b,x.c,x.d] q v)):∀j u,(eN x)[j]?=some u->n.cell? (K e j)=some u:=by intro j u f;simp only[World.cell?,h];rw[<-f];simp[eN]
theorem cu{w':World}{base:Nat}{size:Nat}{v:Value}(h:b.ownsRow base q size v a w)(c:∀g,v.ownBlock=some g->w'.heap[g]?=b.heap[g]?):w'.ownsRow base q size v a w:=by
 refine⟨h.1,?_⟩;rcases h.2 with i|⟨g,d,e,rfl,f,j,rest⟩
 .simp_all
 exact .inr ⟨g,d,e,rfl,f,by rw[c g rfl];omega,rest⟩
structure vo (w wr:World) (N r:Nat) (ba aW bc:Value) (cs:List AV) (hL:List Value):Prop where
 aP:wr.heap[r]?=some (.cells #[A N,ba,aW,bc] 222)
 hw:w.heap.size<=r
 jt:wr.ownsRow w.heap.size 255 1 ba N ((List.range N).map λ_=>Value.slice none 0 0)
 ho:wr.ownsRow w.heap.size 225 4 aW cs.length (cs.flatMap eN)
 hH:∀x∈cs,zeros w.heap.size wr x.a N
 T5:cs.Pairwise λx y=>x.a.ownBlock≠y.a.ownBlock
 cE:AT w.heap.size wr 226 bc hL
 dn:J w wr
theorem vo.ak{w wr g}{W:World}(h:vo w wr a e c d f L g)(b:J wr W):vo w W a e c d f L g:=
 ⟨bB h.aP b,h.hw,dI h.jt b,dI h.ho b,λx i=>dI (h.hH x i) b,h.T5,dI h.cE b,bp h.dn b⟩
theorem vo.rest{w wr E}(h:vo w wr l a c d f L E)(p:J wr s){v u:Value}{o:Nat}{n:Nat}{F:List Value}(r:wr.ownsRow D e U v n F)(q:s.grownBy b v.ownBlock)(I:w.heap.size<=D):
  (∀{base i size:Nat} {v':Value} {t:Nat} {x:List Value},wr.ownsRow base i size v' t x->i≠e->i≠222->(b.setCell (K a o) u).ownsRow base i size v' t x)/\
  (e≠222->b.heap[a]?=some (.cells #[A l,c,d,f] 222))/\J w (b.setCell (K a o) u):=by
 have M:=aU h.aP;have S:=p.size;have W:=q.size;refine⟨λ{base i size v' t x} C j y=>cu C (λg N=> ?_),λj=> ?_,?_⟩
 .obtain⟨X,z⟩:=b0 C N;have P:=aU z;rw[mn _ _ _ _ (show g≠a by intro m;subst m;exact y (cQ z h.aP)),q.block g (by omega) (λm=>by obtain⟨Q,B⟩:=b0 r m.symm;exact j (cQ z B)),p.block g P]
 .rw[q.block a (by omega) (λm=>by obtain⟨Q,B⟩:=b0 r m.symm;exact j (cQ B h.aP)),p.block a M];exact h.aP
 have j:=bp h.dn p;have y:=j.grown q (by have :=h.dn.size;omega) (λk R=>cd I (cX r k R).1);exact y.setCell h.hw _
theorem vo.copy{wr}{W:World}(h:vo n wr a e d f r L w)(l:J wr W){x:AV}(m:s.ownsRow n.heap.size 225 4 c (L.length+1) ((L++[x]).flatMap eN))(p:W.grownBy s f.ownBlock)(q:zeros n.heap.size wr x.a a)(v:∀y∈L,y.a.ownBlock≠x.a.ownBlock):vo n (s.setCell (K e 2) c) a e d c r (L++[x]) w:=by
 obtain⟨rows,k,t⟩:=h.rest (u:=c) (o:=2) l h.ho p (bW _);have k:=k (by decide);refine⟨T4 k,h.hw,rows h.jt (by decide) (by decide),?_,λy j=> ?_,?_,rows h.cE (by decide) (by decide),t⟩
 .rw[dh];exact kd m (λg=>by obtain⟨z,B⟩:=b0 m g;simp_all) _
 .rcases dZ.1 j with j|j
  .exact rows (h.hH y j) (by decide) (by decide)
  simp at j;subst j;exact rows q (by decide) (by decide)
 rw[xQ];refine⟨h.T5,by simp,λi C b l=> ?_⟩
 simp_all
theorem vo.k5{wr}(h:vo b wr e a d f r L w)(k:J wr s){y:Value}(j:n.ownsRow b.heap.size 226 1 c (w.length+1) ((w++[y]).flatMap one))(l:s.grownBy n r.ownBlock):
  vo b (n.setCell (K a 3) c) e a d f c L (w++[y]):=by
 obtain⟨rows,i,m⟩:=h.rest (u:=c) (o:=3) k h.cE l (bW _);have i:=i (by decide);refine⟨PH i,h.hw,rows h.jt (by decide) (by decide),rows h.ho (by decide) (by decide),λy p=>rows (h.hH y p) (by decide) (by decide),h.T5,?_,m⟩;unfold AT;rw[dh];exact kd j (λg=>by obtain⟨q,t⟩:=b0 j g;simp_all) _
def wN (t c:Int) (a:Bool):bT:=⟨(t,c),1,a,(0,0),⟨#[]⟩,(0,0),(0,0),0,(0,0),[]⟩
def wO (t c:Int) (x b:PId):bT:=⟨(t,c),2,false,x,⟨#[]⟩,(0,0),b,0,(0,0),[]⟩
def AW (a t c:Int) (x:PId) (b:ByteArray) (n:Int) (d:PId) (e:List PId):bT:=⟨(t,c),a,false,x,b,(0,0),(0,0),n,d,e⟩
def vp (a t c:Int) (x y:PId) (n:Int) (b:PId) (d:List PId):bT:=⟨(t,c),a,false,x,⟨#[]⟩,y,(0,0),n,b,d⟩
def wP (D:List bA) (t:Int) (b:Nat) (c:Int) (x:PId) (a:ByteArray) (n:Int):Except Int (List bT):=
 match nh D x a with
 |.error m=>.error m
 |.ok d=>if b<60 then .ok [AW 3 (t+1) c x a n (0,0) (d.map (·.dt))] else .error 8
def wQ (D:List bA) (t:Int) (b:Nat) (c:Int) (x:PId) (a:ByteArray) (d:Bool):Except Int (List bT):=
 match nh D x a with
 |.error m=>.error m
 |.ok e=>if b<59 then .ok [wN (t+1) c d,AW 3 (t+2) c x a 0 (t+1,c) (e.map (·.dt))] else .error 8
def vq (D:List bA) (t:Int) (d:Nat) (c:Int) (x:PId) (a:ByteArray):Except Int (List bT):=
 match nh D x a with
 |.error m=>.error m
 |.ok b=>if b.length=0 then .error 6 else if d<60 then .ok [AW 4 (t+1) c x a 0 (0,0) (b.map (·.dt))] else .error 8
def vr (D:List bA) (t:Int) (a:Nat) (c:Int) (x:PId) (i n:Int):Except Int (List bT):=
 match jU D x with
 |.error m=>.error m
 |.ok l=>match lC l i with
  |none=>.error 7
  |some b=>if a<59 then .ok [wO (t+1) c x b,vp 3 (t+2) c x (t+1,c) n (0,0) []] else .error 8
def vs (D:List bA) (t:Int) (a:Nat) (c:Int) (x:PId) (i:Int) (d:Bool):Except Int (List bT):=
 match jU D x with
 |.error m=>.error m
 |.ok l=>match lC l i with
  |none=>.error 7
  |some b=>if a<58 then .ok [wN (t+1) c d,wO (t+2) c x b,vp 3 (t+3) c x (t+2,c) 0 (t+1,c) []] else .error 8
def GJ (D:List bA) (x y:PId):List PId:=
 match qP D x true with
 |.error _=>[]
 |.ok k=>match D[k]? with |some o=>(ju o ⟨#[]⟩ y).map (·.dt)|none=>[]
def lV (D:List bA) (t:Int) (a:Nat) (c:Int) (x:PId) (i:Int) (b n:Int):Except Int (List bT):=
 match jU D x with
 |.error m=>.error m
 |.ok l=>if i<0\/(l.length:Int)<=i then .error 7 else if a<60 then .ok [vp b (t+1) c x (l.getD i.toNat (0,0)) n (0,0) (GJ D x (l.getD i.toNat (0,0)))] else .error 8
theorem Ja(t:Int):t+1+1=t+2:=by omega
theorem aiP(t:Int):t+1+1+1=t+3:=by omega
theorem aaD{q w x}{t:World}(D:nT b e l c d f i j h k u m)(E:J b s)(F:h5 s q e l c d f i j h k u m [M] B y z)(L:J q t)(N:h5 t n e l c d f B y h z u (m++[M].map bY.p) [X] w Y x)(P:n.heap[a]?=some (.cells #[r,I] 36))(Q:b.heap.size<=a)(R:M.ea.ownBlock≠some a)(S:X.ea.ownBlock≠some a)(g v:Value):
  h5 b ((n.setCell (H a) g).setCell (K a 1) v) e l c d f i j h k u m [M,X] w Y x:=by
 refine h5.res D (((F.before L).trans N).after E) P Q (λo C=> ?_) g v;simp at C;rcases C with rfl|rfl
 .exact R
 omega
theorem aiQ{t x D E F L N}{w C:World}{q:bY}(Q:nT b e l c d f i j h k u m)(R:J b s)(S:h5 s t e l c d f i j h k u m [M] B y z)(U:J t w)(W:h5 w x e l c d f B y h z u (m++[M].map bY.p) [X] D Y L)(ez:J x C)(ax:h5 C n e l c d f D Y h L u (m++[M].map bY.p++[X].map bY.p) [q] E F N)(aq:n.heap[a]?=some (.cells #[r,I] 36))(CA:b.heap.size<=a)(dc:M.ea.ownBlock≠some a)(cx:X.ea.ownBlock≠some a)(pr:q.ea.ownBlock≠some a)(g v:Value):
  h5 b ((n.setCell (H a) g).setCell (K a 1) v) e l c d f i j h k u m [M,X,q] E F N:=by
 refine h5.res Q (((S.before U).trans ((W.before ez).trans ax)).after R) aq CA (λo P=> ?_) g v;simp at P;rcases P with rfl|rfl|rfl
 .exact dc
 .exact cx
 omega
theorem aiR {W:Nat->Nat->Value} (h:nT b l u c d f i j W k e m) (ah:ct m<900000) (w x n:Int) (y:ByteArray) (er:y.size<=maxLen):
  O 94 #[Z l,A e,.agg #[A w,A x],.string y,A n] b λg X=>
   (∃q,wP (m.foldl cC dD) (ct m) (j e).length e (w,x) y n=.error q/\g=ad (A q)/\J b X)\/
   (∃Y,wP (m.foldl cC dD) (ct m) (j e).length e (w,x) y n=.ok Y/\g=ad (A 0)/\∃r E F I,r.map bY.p=Y/\h5 b X l u c d f i j W k e m r E F I):=by
 have L:=aV b (af w x);have wG:=ag (Po (h.toShown.ak L) w x y er);have aT:=h;generalize oo:m.foldl cC dD=nQ;rw[oo]at wG;go_enter func94,ntmps94;go_wp2_with fail
 refine wG.o.mono ?_;rintro g w1 ⟨z,⟨q,hn,M,rfl⟩|⟨v,N,M,hl,rfl,aC⟩⟩
 .have a1:=aN M z;have oW:¬q=0:=by omega
  go_wp2;go_ret
  exact .inl ⟨q,by unfold wP;rw[a1.1],rfl,bp L a1.2⟩
 have H1:=M;have P:=ak (a:=(V b 0)) (v:=A w) z (by simp);have bK:=ak (a:=(V b 1)) (v:=A x) z (by simp);have sk:=e7 w1 _ P;have B:=bp L z;have wF:=aC;have Q:=aT.jy B;have vt:=Ek Q.bN e Q.hc 1 (by omega);go_wp2_with fail
 refine vt.mono ?_;rintro g C ⟨rfl,jR⟩;subst jR;by_cases R:(j e).length<60
 .have S:decide ((j e).length+1<=60)=true:=nJ (by omega);rw[S];obtain⟨cq,cf,aO,_,_,_⟩:=bz wF;have e2:=ag aO;subst aO;have Lm:J C C.drew:=(gb C);have qd:=Lm;have aiS:=show b.heap.size<=C.drew.heap.size from B.size
  go_wp2;go_region_with (first
   |(go_at_call 146;refine(OS _ N _ ?aE ?ah).mono ?_;(case aE=>assumption);(case ah=>omega);rintro g w2 ⟨t,rfl,U,bo⟩;obtain⟨lW,lX,qV,_,_,_⟩:=bz U;rw[c2]at qV;subst qV;have D:=qd.trans bo;replace P:=ak D P;replace bK:=ak D bK;have gD:=Q.jy D;have kw:=U.ids;have Jb:=λs hk=>cd aiS (cX U s hk).1;have bF:=bp B D)
   |(go_at_call 145;refine(AS bF gD R rfl (by omega) 0 0 3 w x 0 0 0 0 n 0 0 false y _ (N.map (·.dt)) kw Jb).mono ?_;rintro g w3 ⟨rfl,E,F,I,uf⟩;have AZ:=uf))
  all_goals(try go_wp2)
  all_goals go_ret
  all_goals exact .inr ⟨[AW 3 (ct m+1) e (w,x) y n (0,0) (N.map (·.dt))],by unfold wP;rw[H1];simp only[R,hQ],rfl,_,E,F,I,rfl,AZ⟩
 have S:decide ((j e).length+1<=60)=false:=p2 (by omega);rw[S];go_wp2;go_ret
 exact .inl ⟨8,by unfold wP;rw[H1];simp only[R,fM],rfl,B⟩
theorem aiT {Y:Nat->Nat->Value} (h:nT b l u c d f i j Y k e m) (ah:ct m<900000) (t w:Int) (x:ByteArray) (er:x.size<=maxLen):
  O 97 #[Z l,A e,.agg #[A t,A w],.string x] b λg w'=>
   (∃n,vq (m.foldl cC dD) (ct m) (j e).length e (t,w) x=.error n/\g=ad (A n)/\J b w')\/
   (∃bH,vq (m.foldl cC dD) (ct m) (j e).length e (t,w) x=.ok bH/\g=ad (A 0)/\∃q L M N,q.map bY.p=bH/\h5 b w' l u c d f i j Y k e m q L M N):=by
 have P:=aV b (af t w);have wG:=ag (Po (h.toShown.ak P) t w x er);generalize oo:m.foldl cC dD=nQ;rw[oo]at wG;go_enter func97,ntmps97;go_wp2_with fail
 refine wG.o.mono ?_;rintro g w1 ⟨D,⟨n,hn,z,rfl⟩|⟨v,B,z,hl,rfl,Q⟩⟩
 .have a1:=aN z D;have oW:¬n=0:=by omega
  go_wp2;go_ret
  exact .inl ⟨n,by unfold vq;rw[a1.1],rfl,bp P a1.2⟩
 have R:=ak (a:=(V b 0)) (v:=A t) D (by simp);have bK:=ak (a:=(V b 1)) (v:=A w) D (by simp);have sk:=e7 w1 _ R;have C:=bp P D;have S:=h.jy C;go_wp2_with fail
 refine(Ek S.bN e S.hc 1 (by omega)).mono ?_;rintro g E ⟨rfl,rfl⟩;by_cases F:B.length=0
 .have cR:=D7 F;subst cR;obtain⟨cq,cf,y,_,_,_⟩:=bz Q;subst y;generalize decide ((j e).length+1<=60)=T7;go_wp2;go_ret
  exact .inl ⟨6,by unfold vq;rw[z];rfl,rfl,C⟩
 have l9:=ag (show B≠[] from λg=>F (by rw[g];rfl));by_cases U:(j e).length<60
 .have W:decide ((j e).length+1<=60)=true:=nJ (by omega);rw[W];obtain⟨cq,cf,y,_,_,_⟩:=bz Q;have e2:=ag y;subst y;have Lm:J E E.drew:=(gb E);go_wp2;go_region_with (first
   |(go_at_call 146;refine(OS _ B _ (by assumption) (by omega)).mono ?_;rintro g w2 ⟨s,rfl,X,bo⟩;obtain⟨lW,lX,qV,_,_,_⟩:=bz X;rw[c2]at qV;subst qV;have I:=Lm.trans bo;replace R:=ak I R;replace bK:=ak I bK;have Jb:=λr hk=>cd (show b.heap.size<=E.drew.heap.size from C.size) (cX X r hk).1)
   |(go_at_call 145;refine(AS (bp C I) (S.jy I) U rfl (by omega) 0 0 4 t w 0 0 0 0 0 0 0 false x _ (B.map (·.dt)) X.ids Jb).mono ?_;rintro g w3 ⟨rfl,L,M,N,uf⟩))
  all_goals(try go_wp2)
  all_goals go_ret
  all_goals exact .inr ⟨[AW 4 (ct m+1) e (t,w) x 0 (0,0) (B.map (·.dt))],by unfold vq;rw[z];simp only[F,U,hQ,fM],rfl,_,L,M,N,rfl,uf⟩
 have W:decide ((j e).length+1<=60)=false:=p2 (by omega);rw[W];obtain⟨cq,cf,y,_,_,_⟩:=bz Q;subst y;go_wp2;go_ret
 exact .inl ⟨8,by unfold vq;rw[z];simp only[F,U,fM],rfl,C⟩
theorem aiU {cp:Nat->Nat->Value} (h:nT b l u c d f i j cp k e m) (ah:ct m<900000) (w x:Int) (y:ByteArray) (er:y.size<=maxLen) (C:Bool):
  O 95 #[Z l,A e,.agg #[A w,A x],.string y,.bool C] b λg w'=>
   (∃n,wQ (m.foldl cC dD) (ct m) (j e).length e (w,x) y C=.error n/\g=ad (.tuple #[.agg #[A 0,A 0],A n])/\J b w')\/
   (∃bH,wQ (m.foldl cC dD) (ct m) (j e).length e (w,x) y C=.ok bH/\g=ad (.tuple #[.agg #[A (ct m+1),A e],A 0])/\∃r e5 e6 has',r.map bY.p=bH/\h5 b w' l u c d f i j cp k e m r e5 e6 has'):=by
 have bE:=ag ((aV b (af w x)).alloc (by simp) (af 0 0));have wG:=ag (Po (h.toShown.ak bE.o) w x y er);clear er;have aT:=ag h;clear h;generalize oo:m.foldl cC dD=nQ;rw[oo]at wG;clear oo;go_enter func95,ntmps95;go_wp2_with fail
 refine wG.o.mono ?_;rintro g P ⟨z,⟨n,hn,F,rfl⟩|⟨v,D,F,hl,rfl,aC⟩⟩
 .have Q:=ag (aN F z);clear F z;have oW:¬n=0:=by omega
  clear hn;have fT:=ak (a:=(H (b.heap.size+1))) (v:=A 0) Q.o.2 (by simp);have fm:=ak (a:=(K (b.heap.size+1) 1)) (v:=A 0) Q.o.2 (by simp);have mf:∀q,P.frozen? (K (b.heap.size+1) q)=false:=λq=>by rw[Q.o.2.frozen (p:=(K (b.heap.size+1) q)) (by simp)];simp
  go_wp2;refine ey (v:=.tuple #[.agg #[A 0,A 0],A n]) (by simp[results,results95,go_sem,fT,fm]) rfl ?_;exact .inl ⟨n,by unfold wQ;rw[Q.o.1],rfl,((bp bE.o Q.o.2).setCell (by simp) _).setCell (by simp) _⟩
 have H1:=ag F;clear F;have c4:=ak (a:=(V b 0)) (v:=A w) z (by simp);have bK:=ak (a:=(V b 1)) (v:=A x) z (by simp);have ng:=ag (show P.heap[b.heap.size]?=some (af w x) by rw[z.block b.heap.size (by simp;omega)];exact nm (bZ _ _));have W:=ag (show P.heap[b.heap.size+1]?=some (af 0 0) by rw[z.block (b.heap.size+1) (by simp)];exact(by simp :(b.alloc (af w x)).heap.size=b.heap.size+1)▸bZ (b.alloc (af w x)) (af 0 0));have sk:b.heap.size<P.heap.size:=e7 P _ c4;have aJ:=ag (bp bE.o z);clear z;have wF:=ag aC;clear aC;have I:=ag (aT.o.jy aJ.o);have vt:=ag (Ek I.o.bN e I.o.hc 2 (by omega));go_wp2_with fail
 refine vt.o.mono ?_;rintro g oY ⟨rfl,jR⟩;subst jR;by_cases aH:(j e).length<59
 .have R:decide ((j e).length+2<=60)=true:=nJ (by omega);rw[R];clear R;obtain⟨cq,cf,aO,_,_,_⟩:=bz wF.o;have e2:=ag aO;subst aO;go_wp2_with fail
  refine(AS (ca _ _) I.o (by omega) rfl (by omega) 0 0 1 0 0 0 0 0 0 0 0 0 C ⟨#[]⟩ (.slice none 0 0) [] (I9 _) (λs hk=>by cases hk)).mono ?_;rintro g L ⟨rfl,zs,vm,zt,M⟩;have vu:=ag (M.typed I.o ng.o (by decide) (by decide) (by decide));have gh:=ag (M.typed I.o W.o (by decide) (by decide) (by decide));have S:=(bD vu.o).1;have U:=(bD vu.o).2;have aiB:=aU gh.o;have PM:=ag (show mp L (.slice cq D.length cf) D from M.row I.o wF.o (by decide) (by decide) (by decide));have xZ:=ag (show(vm e).length<60 by have :=M.len;simp at this;omega);have GK:=ag (show ct (m++List.map bY.p [⟨⟨(ct m+1,e),1,C,(0,0),⟨#[]⟩,(0,0),(0,0),0,(0,0),[]⟩,.slice none 0 0⟩])=ct m+1 from LB _ _ rfl);have A0:=ag M;clear M c4 bK;go_wp2;obtain⟨B,X⟩:∃B,B=L.alloc (af (ct m+1) e):=⟨_,rfl⟩;rw[<-X];have N:J L B:=by rw[X];exact aV L _
  have Jc:=ag (show B.heap[L.heap.size]?=some (af (ct m+1) e) by rw[X];exact bZ L _);have x9:=ag (A0.o.wr.jy N);replace PM:=ag (PM.o.ak N);replace S:=ak N S;replace U:=ak N U;have fI:=(bD Jc.o).1;have br:=(bD Jc.o).2;have b9:=ag N;clear N X;have qd:=ag (show J B B.drew from(gb B));go_region_with (first
   |(go_at_call 146;refine(OS _ D _ ?aE ?ah).mono ?_;(case aE=>assumption);(case ah=>omega);rintro g w3 ⟨t,rfl,Y,bo⟩;obtain⟨lW,lX,qV,_,_,_⟩:=bz Y;rw[c2]at qV;subst qV;have E:=qd.o.trans bo;replace S:=ak E S;replace U:=ak E U;replace fI:=ak E fI;replace br:=ak E br;have gD:=ag (x9.o.jy E);have kw:=ag Y.ids;have Jb:=ag (λs hk=>(cX Y s hk).1);clear Y;have bF:=ag E;clear bo E)
   |(go_at_call 145;refine(AS bF.o gD.o xZ.o GK.o (by omega) 0 0 3 w x 0 0 0 0 0 (ct m+1) e false y _ (D.map (·.dt)) kw.o Jb.o).mono ?_;rintro g w4 ⟨rfl,AX,zu,AY,vv⟩;have Jd:=ag vv;clear vv))
  all_goals(have fU:=ag (Jd.o.typed x9.o Jc.o (by decide) (by decide) (by decide));have mV:=ag (Jd.o.typed x9.o (bB gh.o b9.o) (by decide) (by decide) (by decide)))
  all_goals(have fj:=(bD fU.o).1;have gv:=(bD fU.o).2;have s0:=(bD mV.o).1;have s1:=(bD mV.o).2;have PO:=cV mV.o;clear S U fI br)
  all_goals go_wp2
  all_goals(refine ey (v:=.tuple #[.agg #[A (ct m+1),A e],A 0]) (by simp[results,results95,go_sem,s0,s1]) rfl ?_)
  all_goals(have aaE:=aU (bB gh.o b9.o))
  all_goals exact .inr ⟨[wN (ct m+1) e C,AW 3 (ct m+2) e (w,x) y 0 (ct m+1,e) (D.map (·.dt))],by unfold wQ;rw[H1.o];simp only[aH,hQ],rfl,
   [⟨wN (ct m+1) e C,.slice none 0 0⟩,⟨AW 3 (ct m+1+1) e (w,x) y 0 (ct m+1,e) (D.map (·.dt)),.slice lW D.length lX⟩],AX,zu,AY,by rw[<-Ja (ct m)];rfl,
   aaD aT.o aJ.o A0.o b9.o Jd.o mV.o (by omega) (λg=>by cases g) (λg=>by have F:B.heap.size<=_:=Jb.o _ g;omega) _ _⟩
 have R:decide ((j e).length+2<=60)=false:=p2 (by omega);rw[R];clear R;have fT:=(bD W.o).1;have fm:=(bD W.o).2;have mf:=cV W.o;go_wp2;refine ey (v:=.tuple #[.agg #[A 0,A 0],A 8]) (by simp[results,results95,go_sem,fT,fm]) rfl ?_;exact .inl ⟨8,by unfold wQ;rw[H1.o];simp only[aH,fM],rfl,(aJ.o.setCell (by simp) _).setCell (by simp) _⟩
theorem aiV (s:nT b l u c d f i j h k e m) (ah:ct m<900000) (B C t n:Int):
  O 98 #[Z l,A e,.agg #[A B,A C],A t,A n] b λg w'=>
   (∃q,vr (m.foldl cC dD) (ct m) (j e).length e (B,C) t n=.error q/\g=ad (.tuple #[.agg #[A 0,A 0],A q])/\J b w')\/
   (∃bH,vr (m.foldl cC dD) (ct m) (j e).length e (B,C) t n=.ok bH/\g=ad (.tuple #[.agg #[A (ct m+1),A e],A 0])/\∃x e5 e6 has',x.map bY.p=bH/\h5 b w' l u c d f i j h k e m x e5 e6 has'):=by
 have bE:=(aV b (af B C)).alloc (by simp) (af 0 0);have px:=ag (Lq (s.toShown.ak bE) B C true);generalize oo:m.foldl cC dD=nQ;rw[oo]at px;go_enter func98,ntmps98;go_wp2_with fail
 refine px.o.mono ?_;rintro g w1 (⟨q,h1,hn,rfl,Q⟩|⟨r,z,go,cap,os,h1,rfl,e3⟩)
 .have R:=aN h1 Q;have oW:¬q=0:=by omega
  have S:=ak (a:=(H (b.heap.size+1))) (v:=A 0) R.2 (by simp);have U:=ak (a:=(K (b.heap.size+1) 1)) (v:=A 0) R.2 (by simp);have mf:∀w,w1.frozen? (K (b.heap.size+1) w)=false:=λw=>by rw[R.2.frozen (p:=(K (b.heap.size+1) w)) (by simp)];simp
  go_wp2;refine ey (v:=.tuple #[.agg #[A 0,A 0],A q]) (by simp[results,results98,go_sem,S,U]) rfl ?_;exact .inl ⟨q,by unfold vr jU;rw[R.1],rfl,((bp bE R.2).setCell (by simp) _).setCell (by simp) _⟩
 have H1:=h1;have Q:=e3.dn;have wS:=show w1.heap[b.heap.size+1]?=some (af 0 0) by rw[Q.block (b.heap.size+1) (by simp)];exact(by simp :(b.alloc (af B C)).heap.size=b.heap.size+1)▸bZ (b.alloc (af B C)) (af 0 0)
 have aJ:=bp bE Q;have W:=e3;have p8:=ag W.ix;have wE:=ag W.cell;have eb:=W.len;have sr:=eb;have mu:=ag W.ss;have tg:=W.lt;generalize os[r]=P at *;have nR:=show jU nQ (B,C)=.ok (lz P.ss) by
   unfold jU;rw[H1];have :=mu.o;cases F:nQ[r]? with
   |none=>rw[F]at this;cases this
   |some o=>rw[F]at this;simp at this;simp only[F,eJ];rw[this,Pt]
 have CD:=OT _ go (r*4) _ P.ss _ wE.o p8.o (by have :=sr.1;omega);have ll:=ag (show(lz P.ss).length<=240 by have :=Lb P.ss P.ss.length;rw[kp (bW _)]at this;have :=sr.1;omega)
 generalize lz P.ss=L at *;go_wp2_with fail
 refine CD.mono ?_;rintro g w2 ⟨y,rfl,hu,X⟩;have jA:=aas y L t w2 hu.ids;go_wp2_with fail
 refine jA.mono ?_;rintro g Y ⟨bu,⟨zl,rfl⟩|⟨⟨I,M⟩,mU,rfl⟩⟩
 .have cj:=ag (bp aJ (bp X bu));have N:=ag (bB (bB wS X) bu);have D:=ag (aV Y (af 0 0));have E:=ag ((s.jy cj.o).jy D.o);have vt:=ag (Ek E.o.bN e E.o.hc 2 (by omega));have T8:=aU N.o;have S:=(bD (bB N.o D.o)).1;have U:=(bD (bB N.o D.o)).2;have mf:=cV (bB N.o D.o);go_wp2_with fail
  refine vt.o.mono ?_;rintro g w4 ⟨rfl,h7⟩;have hZ:=ag (bp cj.o D.o);generalize Je:Y.alloc (af 0 0)=iJ at *;subst h7;generalize decide ((j e).length+2<=60)=T7;go_wp2;refine ey (v:=.tuple #[.agg #[A 0,A 0],A 7]) (by simp[results,results98,go_sem,S,U]) rfl ?_;exact .inl ⟨7,by unfold vr;rw[nR];simp only[zl],rfl,(hZ.o.setCell (by simp) _).setCell (by simp) _⟩
 have cj:=ag (bp aJ (bp X bu));have T9:=bB (bB (show w1.heap[b.heap.size]?=some (af B C) by rw[Q.block b.heap.size (by simp;omega)];exact nm (bZ _ _)) X) bu;have N:=ag (bB (bB wS X) bu);have D:=ag (aV Y (af I M));have hZ:=ag (bp cj.o D.o);have E:=ag ((s.jy cj.o).jy D.o);have vt:=ag (Ek E.o.bN e E.o.hc 2 (by omega));have zv:=bB T9 D.o;have mV:=bB N.o D.o;have oZ:=bZ Y (af I M);have T8:=aU N.o;have aiW:=aU oZ;go_wp2_with fail
 refine vt.o.mono ?_;rintro g w4 ⟨rfl,h7⟩;generalize Je:Y.alloc (af I M)=iJ at *;subst h7;by_cases aH:(j e).length<59
 .have F:decide ((j e).length+2<=60)=true:=nJ (by omega);rw[F];have bw:=(bD zv).1;have bm:=(bD zv).2;have y0:=(bD oZ).1;have y1':=(bD oZ).2;go_wp2_with fail
  refine(AS (ca _ _) E.o (by omega) rfl (by omega) 0 0 2 B C 0 0 I M 0 0 0 false ⟨#[]⟩ (.slice none 0 0) [] (I9 _) (λr hk=>by cases hk)).mono ?_;rintro g w5 ⟨rfl,zs,vm,zt,mw⟩;have A1:=mw.typed E.o zv (by decide) (by decide) (by decide);have LD:=mw.typed E.o mV (by decide) (by decide) (by decide);have xZ:=show(vm e).length<60 by have :=mw.len;simp at this;omega
  have GK:=show ct (m++List.map bY.p [⟨wO (ct m+1) e (B,C) (I,M),.slice none 0 0⟩])=ct m+1 from LB _ _ rfl
  have A2:=aV w5 (af (ct m+1) e);have ug:=bZ w5 (af (ct m+1) e);have Jf:=bB A1 A2;have CE:=bB LD A2;have qe:=mw.wr.jy A2;have bw:=(bD Jf).1;have bm:=(bD Jf).2;have fI:=(bD ug).1;have br:=(bD ug).2;have aiX:=aU LD;have aiY:=aU A1;go_wp2_with fail
  refine(AS (ca _ _) qe xZ GK (by omega) 0 0 3 B C (ct m+1) e 0 0 n 0 0 false ⟨#[]⟩ (.slice none 0 0) [] (I9 _) (λr hk=>by cases hk)).mono ?_;rintro g w7 ⟨rfl,AX,zu,AY,vv⟩;have LF:=vv.typed qe ug (by decide) (by decide) (by decide);have GL:=vv.typed qe CE (by decide) (by decide) (by decide);have fj:=(bD LF).1;have gv:=(bD LF).2;have s0:=(bD GL).1;have s1:=(bD GL).2;have PO:=cV GL;go_wp2;refine ey (v:=.tuple #[.agg #[A (ct m+1),A e],A 0]) (by simp[results,results98,go_sem,s0,s1]) rfl ?_;exact .inr ⟨[wO (ct m+1) e (B,C) (I,M),vp 3 (ct m+2) e (B,C) (ct m+1,e) n (0,0) []],by unfold vr;rw[nR];simp only[mU,aH,hQ],rfl,
   [⟨wO (ct m+1) e (B,C) (I,M),.slice none 0 0⟩,⟨vp 3 (ct m+1+1) e (B,C) (ct m+1,e) n (0,0) [],.slice none 0 0⟩],AX,zu,AY,by rw[<-Ja (ct m)];rfl,
   aaD s hZ.o mw A2 vv GL (by omega) (λg=>by cases g) (λg=>by cases g) _ _⟩
 have F:decide ((j e).length+2<=60)=false:=p2 (by omega);rw[F];have S:=(bD mV).1;have U:=(bD mV).2;have mf:=cV mV;go_wp2;refine ey (v:=.tuple #[.agg #[A 0,A 0],A 8]) (by simp[results,results98,go_sem,S,U]) rfl ?_;exact .inl ⟨8,by unfold vr;rw[nR];simp only[mU,aH,fM],rfl,(hZ.o.setCell (by simp) _).setCell (by simp) _⟩
theorem aiZ (s:nT b l u c d f i j h k e m) (ah:ct m<900000) (z B r:Int) (F:Bool):
  O 100 #[Z l,A e,.agg #[A z,A B],A r,.bool F] b λg w'=>
   (∃n,vs (m.foldl cC dD) (ct m) (j e).length e (z,B) r F=.error n/\g=ad (.tuple #[.agg #[A 0,A 0],A n])/\J b w')\/
   (∃bH,vs (m.foldl cC dD) (ct m) (j e).length e (z,B) r F=.ok bH/\g=ad (.tuple #[.agg #[A (ct m+1),A e],A 0])/\∃w e5 e6 has',w.map bY.p=bH/\h5 b w' l u c d f i j h k e m w e5 e6 has'):=by
 have bE:=ag ((aV b (af z B)).alloc (by simp) (af 0 0));have px:=ag (Lq (s.toShown.ak bE.o) z B true);have aT:=ag s;clear s;generalize oo:m.foldl cC dD=nQ;rw[oo]at px;clear oo;go_enter func100,ntmps100;go_wp2_with fail
 refine px.o.mono ?_;rintro g w1 (⟨n,W,hn,rfl,I⟩|⟨q,y,go,cap,os,W,rfl,e3⟩)
 .have X:=ag (aN W I);clear W I;have oW:¬n=0:=by omega
  clear hn;have Y:=ak (a:=(H (b.heap.size+1))) (v:=A 0) X.o.2 (by simp[go_sem]);have fm:=ak (a:=(K (b.heap.size+1) 1)) (v:=A 0) X.o.2 (by simp[go_sem]);have mf:∀t,w1.frozen? (K (b.heap.size+1) t)=false:=λt=>by rw[X.o.2.frozen (p:=(K (b.heap.size+1) t)) (by simp)];simp[go_sem]
  go_wp2;refine ey (v:=.tuple #[.agg #[A 0,A 0],A n]) (by simp[results,results100,go_sem,Y,fm]) rfl ?_;exact .inl ⟨n,by unfold vs jU;rw[X.o.1],rfl,((bp bE.o X.o.2).setCell (by simp) _).setCell (by simp) _⟩
 have H1:=ag W;clear W;have I:=e3.dn;have ng:=ag (show w1.heap[b.heap.size]?=some (af z B) by rw[I.block b.heap.size (by simp;omega)];exact nm (bZ _ _));have wS:=ag (show w1.heap[b.heap.size+1]?=some (af 0 0) by rw[I.block (b.heap.size+1) (by simp)];exact(by simp :(b.alloc (af z B)).heap.size=b.heap.size+1)▸bZ (b.alloc (af z B)) (af 0 0));have aJ:=ag (bp bE.o I);clear I;have jv:=ag e3;clear e3;have p8:=ag jv.o.ix;have wE:=ag jv.o.cell;have eb:=jv.o.len;have sr:=ag eb;clear eb;have mu:=ag jv.o.ss;have tg:=jv.o.lt;generalize os[q]=R at *;have nR:=ag (show jU nQ (z,B)=.ok (lz R.ss) by
   unfold jU;rw[H1.o];have :=mu.o;cases E:nQ[q]? with
   |none=>rw[E]at this;cases this
   |some o=>rw[E]at this;simp at this;simp only[E,eJ];rw[this,Pt])
 have CD:=ag (OT _ go (q*4) _ R.ss _ wE.o p8.o (by have :=sr.o.1;omega));have ll:=ag (show(lz R.ss).length<=240 by have :=Lb R.ss R.ss.length;rw[kp (bW _)]at this;have :=sr.o.1;omega)
 generalize lz R.ss=L at *;go_wp2_with fail
 refine CD.o.mono ?_;rintro g w2 ⟨x,rfl,hu,bo⟩;have bF:=ag bo;clear bo;have kw:=ag hu.ids;clear hu;have jA:=ag (aas x L r w2 kw.o);go_wp2_with fail
 refine jA.o.mono ?_;rintro g w3 ⟨M,⟨zl,rfl⟩|⟨⟨N,P⟩,mU,rfl⟩⟩
 .have cj:=ag (bp aJ.o (bp bF.o M));have Q:=ag (bB (bB wS.o bF.o) M);have LG:=ag zl;clear zl M;have C:=ag (aV w3 (af 0 0));have D:=ag ((aT.o.jy cj.o).jy C.o);have vt:=ag (Ek D.o.bN e D.o.hc 3 (by omega));have T8:=aU Q.o;have Y:=(bD (bB Q.o C.o)).1;have fm:=(bD (bB Q.o C.o)).2;have mf:=cV (bB Q.o C.o);go_wp2_with fail
  refine vt.o.mono ?_;rintro g w4 ⟨rfl,h7⟩;have hZ:=ag (bp cj.o C.o);clear D vt;generalize Je:w3.alloc (af 0 0)=iJ at *;subst h7;clear Je;generalize decide ((j e).length+3<=60)=T7;go_wp2;refine ey (v:=.tuple #[.agg #[A 0,A 0],A 7]) (by simp[results,results100,go_sem,Y,fm]) rfl ?_;exact .inl ⟨7,by unfold vs;rw[nR.o];simp only[LG.o],rfl,(hZ.o.setCell (by simp) _).setCell (by simp) _⟩
 have cj:=ag (bp aJ.o (bp bF.o M));have T9:=ag (bB (bB ng.o bF.o) M);have Q:=ag (bB (bB wS.o bF.o) M);have CF:=ag mU;clear mU M;have C:=ag (aV w3 (af N P));have hZ:=ag (bp cj.o C.o);have D:=ag ((aT.o.jy cj.o).jy C.o);have vt:=ag (Ek D.o.bN e D.o.hc 3 (by omega));have zv:=ag (bB T9.o C.o);have mV:=ag (bB Q.o C.o);have oZ:=ag (bZ w3 (af N P));have T8:=aU Q.o;have aiW:=aU oZ.o;go_wp2_with fail
 refine vt.o.mono ?_;rintro g w4 ⟨rfl,h7⟩;generalize Je:w3.alloc (af N P)=iJ at *;subst h7;clear Je;by_cases aH:(j e).length<58
 .have E:decide ((j e).length+3<=60)=true:=nJ (by omega);rw[E];clear E;go_wp2_with fail
  refine(AS (ca _ _) D.o (by omega) rfl (by omega) 0 0 1 0 0 0 0 0 0 0 0 0 F ⟨#[]⟩ (.slice none 0 0) [] (I9 _) (λq hk=>by cases hk)).mono ?_;rintro g w5 ⟨rfl,zs,vm,zt,S⟩;have A1:=ag (S.typed D.o zv.o (by decide) (by decide) (by decide));have LD:=ag (S.typed D.o mV.o (by decide) (by decide) (by decide));have wT:=ag (S.typed D.o oZ.o (by decide) (by decide) (by decide));have xZ:=ag (show(vm e).length<59 by have :=S.len;simp at this;omega);have GK:=ag (show ct (m++List.map bY.p [⟨wN (ct m+1) e F,.slice none 0 0⟩])=ct m+1 from LB _ _ rfl);have A0:=ag S;clear S;have A2:=ag (aV w5 (af (ct m+1) e));have ug:=ag (bZ w5 (af (ct m+1) e));have Jf:=ag (bB A1.o A2.o);have CE:=ag (bB LD.o A2.o);have sz:=ag (bB wT.o A2.o);have qe:=ag (A0.o.wr.jy A2.o);have bw:=(bD Jf.o).1;have bm:=(bD Jf.o).2;have y0:=(bD sz.o).1;have y1':=(bD sz.o).2;have aiX:=aU LD.o;have aiY:=aU A1.o;have at9:=aU wT.o;go_wp2_with fail
  have aua:=xZ.o;refine(AS (ca _ _) qe.o (by omega) GK.o (by omega) 0 0 2 z B 0 0 N P 0 0 0 false ⟨#[]⟩ (.slice none 0 0) [] (I9 _) (λq hk=>by cases hk)).mono ?_;rintro g w7 ⟨rfl,AX,zu,AY,U⟩;have HL7:=ag (U.typed qe.o Jf.o (by decide) (by decide) (by decide));have GL:=ag (U.typed qe.o CE.o (by decide) (by decide) (by decide));have LF:=ag (U.typed qe.o ug.o (by decide) (by decide) (by decide));have ai0:=ag (show(zu e).length<60 by have :=U.len;simp at this;omega);have ai1:=ag (show ct (m++List.map bY.p [⟨wN (ct m+1) e F,.slice none 0 0⟩]++List.map bY.p [⟨wO (ct m+1+1) e (z,B) (N,P),.slice none 0 0⟩])=ct m+1+1 from(LB _ _ (by rw[GK.o];rfl)).trans (by rw[GK.o]));have Jd:=ag U;clear U bw bm y0 y1';have LH:=ag (aV w7 (af (ct m+1+1) e));have HE8:=ag (bZ w7 (af (ct m+1+1) e));have HL8:=ag (bB HL7.o LH.o);have HR8:=ag (bB GL.o LH.o);have Ua:=ag (bB LF.o LH.o);have PQ:=ag (Jd.o.wr.jy LH.o);have bw:=(bD HL8.o).1;have bm:=(bD HL8.o).2;have fI:=(bD Ua.o).1;have br:=(bD Ua.o).2;have cR:=(bD HE8.o).1;have av:=(bD HE8.o).2;have aub:=aU GL.o;have auc:=aU HL7.o;have aud:=aU LF.o;go_wp2_with fail
  refine(AS (ca _ _) PQ.o ai0.o ai1.o (by omega) 0 0 3 z B (ct m+1+1) e 0 0 0 (ct m+1) e false ⟨#[]⟩ (.slice none 0 0) [] (I9 _) (λq hk=>by cases hk)).mono ?_;rintro g w9 ⟨rfl,PJ,PK,PL,PR⟩;have HO9:=ag (PR.typed PQ.o Ua.o (by decide) (by decide) (by decide));have PS:=ag (PR.typed PQ.o HR8.o (by decide) (by decide) (by decide));have ai2:=ag PR;clear PR bw bm fI br cR av;have fj:=(bD HO9.o).1;have gv:=(bD HO9.o).2;have s0:=(bD PS.o).1;have s1:=(bD PS.o).2;have PO:=cV PS.o;go_wp2;refine ey (v:=.tuple #[.agg #[A (ct m+1),A e],A 0]) (by simp[results,results100,go_sem,s0,s1]) rfl ?_;exact .inr ⟨[wN (ct m+1) e F,wO (ct m+2) e (z,B) (N,P),vp 3 (ct m+3) e (z,B) (ct m+2,e) 0 (ct m+1,e) []],by unfold vs;rw[nR.o];simp only[CF.o,aH,hQ],rfl,
   [⟨wN (ct m+1) e F,.slice none 0 0⟩,⟨wO (ct m+1+1) e (z,B) (N,P),.slice none 0 0⟩,⟨vp 3 (ct m+1+1+1) e (z,B) (ct m+1+1,e) 0 (ct m+1,e) [],.slice none 0 0⟩],PJ,PK,PL,by rw[<-aiP (ct m),<-Ja (ct m)];rfl,
   aiQ aT.o hZ.o A0.o A2.o Jd.o LH.o ai2.o PS.o (by omega) (λg=>by cases g) (λg=>by cases g) (λg=>by cases g) _ _⟩
 have E:decide ((j e).length+3<=60)=false:=p2 (by omega);rw[E];clear E;have Y:=(bD mV.o).1;have fm:=(bD mV.o).2;have mf:=cV mV.o;go_wp2;refine ey (v:=.tuple #[.agg #[A 0,A 0],A 8]) (by simp[results,results100,go_sem,Y,fm]) rfl ?_;exact .inl ⟨8,by unfold vs;rw[nR.o];simp only[CF.o,aH,fM],rfl,(hZ.o.setCell (by simp) _).setCell (by simp) _⟩
def GM (D:List bA):Prop:=∀o∈D,o.aS=true->∀s∈o.ss,s.key=⟨#[]⟩
theorem ai3{l:List cK}{s:cK}(h:s∈sm l W F):s∈l\/s=qK ⟨#[]⟩ F:=by
 have a:∀n,s∈te l n (qK ⟨#[]⟩ F)->s∈l\/s=qK ⟨#[]⟩ F:=by
  intro n h;unfold te at h;rw[dZ,ft]at h;rcases h with h|h|h
  .exact .inl (mo h)
  .simp_all
  exact .inl (tS h)
 unfold sm at h;split at h
 .exact a _ h
 split at h
 .simp_all
 exact a _ h
theorem aaF {α:Type} {l:List α} {f:α->α} {x:α} (h:x∈l.modify a f):x∈l\/∃y∈l,x=f y:=by
 obtain⟨j,b,rfl⟩:=mm.1 h;rw[List.getElem_modify];rw[List.length_modify]at b;split
 .exact .inr ⟨l[j],dB _,rfl⟩
 simp
theorem ai4{l:List cK}{c:List PId}{y:dr}{s:cK}(h:s∈mS l true P F c E y):∃a∈l,s.key=a.key:=by
 unfold mS at h;split at h
 .simp at h;exact⟨s,h,rfl⟩
 rcases aaF h with b|⟨a,b,rfl⟩
 .exact⟨s,b,rfl⟩
 exact⟨a,b,rfl⟩
theorem GM.mx(h:GM Q)(p:bT):GM (cC Q p):=by
 intro o b c s a;unfold cC at b;split at b
 .rcases dZ.1 b with b|b
  .exact h o b c s a
  simp_all
 split at b
 .exact h o b c s a
 rcases aaF b with d|⟨i,d,rfl⟩
 .exact h o d c s a
 unfold hJ at c a;split at a
 .split at a
  .rename_i g f
   rcases ai3 a with a|rfl
   .exact h i d f s a
   rfl
  simp_all
 split at a
 .rename_i g f
  rw[a7 g,bn f]at c;rw[c]at a;obtain⟨j,k,e⟩:=ai4 a;rw[e];exact h i d c j k
 rename_i g f
 rw[a7 g,a7 f]at c;exact h i d c s a
theorem ai5(S:List bT):GM (S.foldl cC dD):=by
 have a:∀(S:List bT) (D:List bA),GM D->GM (S.foldl cC D):=by
  intro S
  induction S with
  |nil=>intro D h;exact h
  |cons p S ih=>intro D h;exact ih _ (h.mx p)
 refine a S dD ?_;intro o b c;simp[dD]at b;simp_all
theorem ai6{b:List bX}(g:∀s∈b,s.key=⟨#[]⟩)(i:F∈lz b):∃q:Nat,∃h:q<b.length,di (iG ⟨#[]⟩ F) b=(q:Int)/\(b.map bX.p).find? (gA ⟨#[]⟩ F)=some (b[q]).p:=by
 have l:=Gj (iG ⟨#[]⟩ F) b;have m:=Ci (iG ⟨#[]⟩ F) b;have j:¬di (iG ⟨#[]⟩ F) b<0:=by
  intro c;obtain⟨s,k,rfl⟩:=dF.1 i;have d:=(p4.1 k).1;unfold di at c;split at c
  .omega
  rename_i e
  rw[Oz]at e;have :=e s d;simp[iG,fv,g s d]at this
 obtain⟨q,f⟩:=Ce (a:=di (iG ⟨#[]⟩ F) b) (by omega);refine⟨q,by omega,f,?_⟩;rw[Z3,a7 j,f];simp[show q<b.length by omega]
theorem qW(h:b.heap[a]?=some (.cells N q v)){j:Nat}{u:Value}(c:N[j]?=some u):b.cell? (K a j)=some u:=by simp[World.cell?,h,c]
theorem ai7{f}(h:GM Q)(c:qP Q F true=.ok a)(d:zn b n Q a e l u f):∀s∈(f[a]'d.lt).ss,s.key=⟨#[]⟩:=by
 intro s g;have i:=d.lt;have m:a<Q.length:=by rw[<-d.eq];simpa using i
 have j:Q[a]=(f[a]).p:=by simp only[<-d.eq,pn]
 have k:Q[a].aS=true:=by
  unfold qP at c;split at c
  .cases c
  split at c
  .rename_i o q
   split at c
   .simp_all
   cases c
  cases c
 have :=h Q[a] (dB _) k s.p (by rw[j];exact dF.2 ⟨s,g,rfl⟩);exact this
theorem ai8{e g i j k l m n o p u:Value}(h:b.heap[a]?=some (.cells #[c,d,f,r,I,e,g,i,j,k,l,m,n,o,p] q)):
  (b.setCell (K a 14) u).heap[a]?=some (.cells #[c,d,f,r,I,e,g,i,j,k,l,m,n,o,u] q):=by
 obtain⟨_,s⟩:=e8.1 h;simp[World.setCell,aU h,xR,s]
theorem ai9{g n:Int}{b:List bX}{d:bX}(h:jU Q F=.ok (lz b))(i:¬((a:Int)<0\/((lz b).length:Int)<=a))(j:l<60)(k:qP Q F true=.ok e)(m:(lz b).getD a (0,0)=W)(c:(Q[e]?.map bA.ss)=some (b.map bX.p))(q:(b.map bX.p).find? (gA ⟨#[]⟩ W)=some d.p):
  lV Q E l S F a g n=.ok [vp g (E+1) S F W n (0,0) (d.aj.map (·.dt))]:=by
 unfold lV;rw[h];simp only[i,j,hQ,fM,xP,m];have :GJ Q F W=d.aj.map (·.dt):=by
  unfold GJ;rw[k];cases f:Q[e]? with
  |none=>rw[f]at c;cases c
  |some o=>rw[f]at c;simp at c;simp only[f,ju,c,q];rfl
 rw[this]
theorem aaH {w:World} {cp:Nat->Nat->Value} (h:nT w l D c d f i y cp k e m) (ah:ct m<900000) (M N t Q n:Int):
  O 150 #[Z l,A e,.agg #[A M,A N],A t,.agg #[A 0,A 0,A Q,.bool false,A 0,A 0,.string ⟨#[]⟩,A 0,A 0,A 0,A 0,A n,A 0,A 0,.slice none 0 0]] w λb w'=>
   (∃v,lV (m.foldl cC dD) (ct m) (y e).length e (M,N) t Q n=.error v/\b=ad (A v)/\J w w')\/
   (∃bH,lV (m.foldl cC dD) (ct m) (y e).length e (M,N) t Q n=.ok bH/\b=ad (A 0)/\∃z e5 e6 has',z.map bY.p=bH/\h5 w w' l D c d f i y cp k e m z e5 e6 has'):=by
 have bE:=ag ((aV w (af M N)).alloc (by simp) (.cells #[A 0,A 0,A Q,.bool false,A 0,A 0,.string ⟨#[]⟩,A 0,A 0,A 0,A 0,A n,A 0,A 0,.slice none 0 0] 233));have px:=ag (Lq (h.toShown.ak bE.o) M N true);have aT:=ag h;clear h;have vw:=ag (ai5 m);generalize oo:m.foldl cC dD=nQ;rw[oo]at px vw;clear oo;go_enter func150,ntmps150;go_wp2_with fail
 refine px.o.mono ?_;rintro b w1 (⟨v,U,hn,rfl,aA⟩|⟨r,C,go,cap,os,U,rfl,e3⟩)
 .have a1:=ag (aN U aA);clear U aA;have oW:¬v=0:=by omega
  clear hn;go_wp2;go_ret
  exact .inl ⟨v,by unfold lV jU;rw[a1.o.1],rfl,bp bE.o a1.o.2⟩
 have H1:=ag U;clear U;have aA:=e3.dn;have ng:=ag (show w1.heap[w.heap.size]?=some (af M N) by rw[aA.block w.heap.size (by simp;omega)];exact nm (bZ _ _));have HBP:=ag (show w1.heap[w.heap.size+1]?=some (.cells #[A 0,A 0,A Q,.bool false,A 0,A 0,.string ⟨#[]⟩,A 0,A 0,A 0,A 0,A n,A 0,A 0,.slice none 0 0] 233) by rw[aA.block (w.heap.size+1) (by simp)];exact(by simp :(w.alloc (af M N)).heap.size=w.heap.size+1)▸bZ (w.alloc (af M N)) _);have aJ:=ag (bp bE.o aA);clear aA;have jv:=ag e3;clear e3;have p8:=ag jv.o.ix;have wE:=ag jv.o.cell;have eb:=jv.o.len;have sr:=ag eb;clear eb;have mu:=ag jv.o.ss;have tg:=jv.o.lt;have wU:=ag (show ∀s∈(os[r]'tg).ss,s.key=⟨#[]⟩ from ai7 vw.o H1.o jv.o);generalize os[r]=E at *;have nR:=ag (show jU nQ (M,N)=.ok (lz E.ss) by
   unfold jU;rw[H1.o];have :=mu.o;cases R:nQ[r]? with
   |none=>rw[R]at this;cases this
   |some o=>rw[R]at this;simp at this;simp only[R,eJ];rw[this,Pt])
 have CD:=ag (OT _ go (r*4) _ E.ss _ wE.o p8.o (by have :=sr.o.1;omega));have ll:=ag (show(lz E.ss).length<=240 by have :=Lb E.ss E.ss.length;rw[kp (bW _)]at this;have :=sr.o.1;omega)
 go_wp2_with fail
 refine CD.o.mono ?_;rintro b w2 ⟨u,rfl,W,bo⟩;have bF:=ag (bp aJ.o bo);have gD:=ag (aT.o.jy bF.o);have CF:=ag bo;clear bo;have kw:=ag W;clear W;have vt:=ag (Ek gD.o.bN e gD.o.hc 1 (by omega));obtain⟨lW,lX,qV,huc,ya,kf⟩:=bz kw.o;subst qV;go_wp2_with fail
 refine vt.o.mono ?_;rintro b X ⟨rfl,e4⟩;subst e4;have hsn:=ll.o;by_cases hi:t<0\/((lz E.ss).length:Int)<=t
 .generalize decide ((y e).length+1<=60)=T7;have du:=ag hi;rcases hi with hi|hi
  .go_wp2;go_ret
   exact .inl ⟨7,by unfold lV;rw[nR.o];simp only[du.o,hQ],rfl,bF.o⟩
  by_cases om:t<0
  .go_wp2;go_ret
   exact .inl ⟨7,by unfold lV;rw[nR.o];simp only[du.o,hQ],rfl,bF.o⟩
  go_wp2;go_ret
  exact .inl ⟨7,by unfold lV;rw[nR.o];simp only[du.o,hQ],rfl,bF.o⟩
 by_cases aH:(y e).length<60
 .have R:decide ((y e).length+1<=60)=true:=nJ (by omega);rw[R];clear R;obtain⟨j,rfl⟩:=Ce (a:=t) (by omega);have iV:j<(lz E.ss).length:=by omega
  obtain⟨S,rfl⟩:=kf j iV;have vu:=ag (bB ng.o CF.o);have vx:=ag (bB HBP.o CF.o);have bw:=(bD vu.o).1;have bm:=(bD vu.o).2;have I:=λj u W=>qW vx.o (j:=j) (u:=u) W
  have fj:=I 0 _ rfl;have gv:=I 1 _ rfl;have mR:=I 2 _ rfl;have pw:=I 3 _ rfl;have uc:=I 4 _ rfl;have Py:=I 5 _ rfl;have Gs:=I 6 _ rfl;have Pz:=I 7 _ rfl;have PA:=I 8 _ rfl;have PB:=I 9 _ rfl;have PC:=I 10 _ rfl;have IL:=I 11 _ rfl;have IM:=I 12 _ rfl;have IN:=I 13 _ rfl;have AF:=I 14 _ rfl;have LI:=cV vx.o;obtain⟨yb,eA⟩:=fu.cells kw.o.ids rfl j iV;have iA:=ag (dB iV);have HYE:=ag (show(lz E.ss).getD j (0,0)=(lz E.ss)[j] by simp[iV]);generalize(lz E.ss)[j]=B at *;obtain⟨q,aw,HFI,Lr⟩:=ai6 wU.o iA.o;obtain⟨y1,y2⟩:=B;have hgu:S<X.heap.size:=e7 X _ yb;have vy:S≠w.heap.size+1:=by intro b;have U:=(cX kw.o S rfl).1;have h2:=aU HBP.o;omega
  clear I kf;go_wp2;obtain⟨F,hI⟩:∃F,F=(((X.setCell (K (w.heap.size+1) 4) (A M)).setCell (K (w.heap.size+1) 5) (A N)).setCell (K (w.heap.size+1) 7) (A y1)).setCell (K (w.heap.size+1) 8) (A y2):=⟨_,rfl⟩;rw[<-hI];have eS:∀r,r≠w.heap.size+1->F.heap[r]?=X.heap[r]?:=λr hk=>by rw[hI,mn _ _ _ _ hk,mn _ _ _ _ hk,mn _ _ _ _ hk,mn _ _ _ _ hk]
  have P:=ag (show F.heap[w.heap.size+1]?=some (.cells #[A 0,A 0,A Q,.bool false,A M,A N,.string ⟨#[]⟩,A y1,A y2,A 0,A 0,A n,A 0,A 0,.slice none 0 0] 233) by have hl:=aU vx.o;obtain⟨_,he⟩:=e8.1 vx.o;rw[hI];simp[World.setCell,hl,xR,he])
  have cj:=ag (show J w F by rw[hI];exact(((bF.o.setCell (by simp) _).setCell (by simp) _).setCell (by simp) _).setCell (by simp) _);have aue:F.heap.size=X.heap.size:=by rw[hI];simp[World.setCell]
  clear hI fj gv mR pw uc Py Gs Pz PA PB PC IL IM IN AF LI bw bm;have ou:Hq (∀(g:Nat) (cs:Array Value) (b:TypeId) (x:Nat×Nat),X.heap[g]?=some (.cells cs b x)->b≠233->F.heap[g]?=some (.cells cs b x)):=λg cs b x aq he=>by rw[eS g (by intro e';subst e';exact he (cQ aq vx.o))];exact aq
  have Uc:=ag (show jm _ F E.ix E.ss from O6 (p8.o.ak CF.o) (λg aq=>by obtain⟨cs,jq⟩:=b0 (p8.o.ak CF.o).1 aq;rw[ou.o g _ _ _ jq (by decide),jq]) (λg cur aq=>by rw[ou.o g _ _ _ aq (by decide),aq]));obtain⟨go2,auf,cO,GO,_,aaI,_,_,_,_,_,aug⟩:=(jv.o.doc.ak CF.o).row tg;injection GO with GO _ _;injection GO with GO;injection GO with GO;subst GO;have aaJ:=ag (show F.cell? (K go (r*4+3))=some E.ix by have U:=ou.o _ _ _ _ aaI (by decide);have h2:=ak CF.o wE.o;simp only[World.cell?,aaI]at h2;simp only[World.cell?,U];exact h2)
  obtain⟨uh,A3,PT,se,hsm,lY⟩:=bz Uc.o.1;unfold maxLen at hsm;obtain⟨gs,rfl⟩:=lY q aw;have ce:=aaJ.o;rw[PT]at ce;have GA:=ag Uc.o;rw[PT]at GA;have hK:=(jm.cells GA.o rfl q aw).2.2.2;have ve:=GA.o.2 E.ss[q] (dB _);have Lh:=sr.o.2 E.ss[q] (dB _);have aja:=ag Lr;clear Lr;generalize E.ss[q]=Y at *;obtain⟨cq,cf,aO,_,_,_⟩:=bz ve;rw[aO]at hK ve;have wF:=ag ve;clear ve;have Ud:F.cell? (K S (j*2))=some (A y1):=by rw[wo (w:=X) (a:=(K S (j*2))) (eS S vy)];exact yb
  have Ue:F.cell? (K S (j*2+1))=some (A y2):=by rw[wo (w:=X) (a:=(K S (j*2+1))) (eS S vy)];exact eA
  have AF:=qW P.o (j:=14) rfl;have LI:=cV P.o;have Gk:gs<F.heap.size:=e7 F _ hK;have e2:=ag aO;clear aO;have auh:=ag PT;clear PT lY yb eA;have aui:=ag eS;clear eS;have ajb:=ag HFI;clear HFI;have qd:=ag (show J F F.drew from(gb F));go_region_with (first
   |(go_at_call 172;refine(Gh _ go (r*4) _ E.ss ⟨#[]⟩ y1 y2 _ (ak qd.o aaJ.o) (Uc.o.ak qd.o)).mono ?_;rintro b w4 ⟨rfl,hY⟩;rw[ajb.o];have A4:J F w4:=qd.o.trans hY;replace ce:=ak A4 ce;replace hK:=ak A4 hK;replace Ud:=ak A4 Ud;replace Ue:=ak A4 Ue;replace P:=ag (bB P.o A4);replace AF:=qW P.o (j:=14) rfl;replace LI:=cV P.o;have hZ:=ag A4;clear hY A4)
   |(go_at_call 146;refine(OS _ Y.aj _ ?aE ?ah).mono ?_;(case aE=>exact wF.o.ak hZ.o);(case ah=>omega);rintro b w5 ⟨u,rfl,W,nU⟩;obtain⟨PU,PV,qV,_,_,_⟩:=bz W;rw[c2]at qV;subst qV;replace P:=ag (bB P.o nU);replace AF:=qW P.o (j:=14) rfl;replace LI:=cV P.o;have Uf:=ag W;clear W;have mW:=ag nU;clear nU))
  all_goals(obtain⟨w6,LJ⟩:∃w6,w6=w5.setCell (K (w.heap.size+1) 14) (.slice PU Y.aj.length PV):=⟨_,rfl⟩;rw[<-LJ];clear ce hK Ud Ue AF LI)
  all_goals(have LK:=ag (show J w w6 by rw[LJ];exact((bp cj.o (bp hZ.o mW.o)).setCell (by simp) _));have qe:=ag (aT.o.jy LK.o);have L:=ag (show w6.heap[w.heap.size+1]?=some (.cells #[A 0,A 0,A Q,.bool false,A M,A N,.string ⟨#[]⟩,A y1,A y2,A 0,A 0,A n,A 0,A 0,.slice PU Y.aj.length PV] 233) by rw[LJ];exact ai8 P.o);have HI6:=ag (show fu w6 (.slice PU Y.aj.length PV) (Y.aj.map (·.dt)) by rw[LJ];exact kd Uf.o.ids (λb=>by exact iX Uf.o b P.o (by decide)) _);have LL:=ag (show ∀r,(Value.slice PU Y.aj.length PV).ownBlock=some r->w.heap.size<=r from λr hk=>cd (cd cj.o.size hZ.o.size) (cX Uf.o r hk).1))
  all_goals(have gX:=qW L.o (j:=0) rfl;have q1:=qW L.o (j:=1) rfl;have h4:=qW L.o (j:=2) rfl;have wB:=qW L.o (j:=3) rfl;have AQ:=qW L.o (j:=4) rfl;have wJ:=qW L.o (j:=5) rfl;have avj:=qW L.o (j:=6) rfl;have avk:=qW L.o (j:=7) rfl;have avl:=qW L.o (j:=8) rfl;have avm:=qW L.o (j:=9) rfl;have q10:=qW L.o (j:=10) rfl;have q11:=qW L.o (j:=11) rfl;have q12:=qW L.o (j:=12) rfl;have q13:=qW L.o (j:=13) rfl;have q14:=qW L.o (j:=14) rfl;clear LJ)
  all_goals(go_wp2_with fail)
  all_goals(refine(AS LK.o qe.o aH rfl (by omega) 0 0 Q M N y1 y2 0 0 n 0 0 false ⟨#[]⟩ _ (Y.aj.map (·.dt)) HI6.o LL.o).mono ?_;rintro b w7 ⟨rfl,e5,e6,has',uf⟩;have AZ:=ag uf;clear uf)
  all_goals go_wp2
  all_goals go_ret
  all_goals exact .inr ⟨[vp Q (ct m+1) e (M,N) (y1,y2) n (0,0) (Y.aj.map (·.dt))],ai9 nR.o hi aH H1.o HYE.o mu.o aja.o,rfl,_,e5,e6,has',rfl,AZ.o⟩
 have R:decide ((y e).length+1<=60)=false:=p2 (by omega);rw[R];clear R;have du:=ag hi;go_wp2;go_ret
 exact .inl ⟨8,by unfold lV;rw[nR.o];simp only[du.o,aH,fM],rfl,bF.o⟩
theorem ajc (t:nT b e l c d f i j h k a m) (F:ct m<900000) (u v g n:Int):
  O 101 #[Z e,A a,.agg #[A u,A v],A g,A n] b λs E=>
   (∃q,lV (m.foldl cC dD) (ct m) (j a).length a (u,v) g 3 n=.error q/\s=ad (A q)/\J b E)\/
   (∃x,lV (m.foldl cC dD) (ct m) (j a).length a (u,v) g 3 n=.ok x/\s=ad (A 0)/\∃r y z B,r.map bY.p=x/\h5 b E e l c d f i j h k a m r y z B):=by
 have C:=aV b (af u v);have I:=aaH (t.jy C) F u v g 3 n;generalize P:lV (m.foldl cC dD) (ct m) (j a).length a (u,v) g 3 n=Q at *;go_enter func101,ntmps101;go_wp2_with fail
 refine I.mono ?_;rintro s R (⟨q,D,rfl,L⟩|⟨x,D,rfl,r,y,z,B,M,N⟩)
 .have w:=ag (aN D L);go_wp2;go_ret
  exact .inl ⟨q,w.o.1,rfl,bp C w.o.2⟩
 have w:=ag (aN D (aN M N));go_wp2;go_ret
 exact .inr ⟨x,w.o.1,rfl,r,y,z,B,w.o.2.1,w.o.2.2.after C⟩
theorem ajd (s:nT b e l c d f i j h k a m) (E:ct m<900000) (t u g:Int):
  O 102 #[Z e,A a,.agg #[A t,A u],A g] b λr D=>
   (∃n,lV (m.foldl cC dD) (ct m) (j a).length a (t,u) g 4 0=.error n/\r=ad (A n)/\J b D)\/
   (∃w,lV (m.foldl cC dD) (ct m) (j a).length a (t,u) g 4 0=.ok w/\r=ad (A 0)/\∃q x y z,q.map bY.p=w/\h5 b D e l c d f i j h k a m q x y z):=by
 have B:=aV b (af t u);have F:=aaH (s.jy B) E t u g 4 0;generalize N:lV (m.foldl cC dD) (ct m) (j a).length a (t,u) g 4 0=P at *;go_enter func102,ntmps102;go_wp2_with fail
 refine F.mono ?_;rintro r Q (⟨n,C,rfl,I⟩|⟨w,C,rfl,q,x,y,z,L,M⟩)
 .have v:=ag (aN C I);go_wp2;go_ret
  exact .inl ⟨n,v.o.1,rfl,bp B v.o.2⟩
 have v:=ag (aN C (aN L M));go_wp2;go_ret
 exact .inr ⟨w,v.o.1,rfl,q,x,y,z,v.o.2.1,v.o.2.2.after B⟩
theorem aje (m:fS b a e c d f i j h k) (g o p n:Int) (q:ByteArray) (s:¬(0<=g/\g<e)):
  O 94 #[Z a,A g,.agg #[A o,A p],.string q,A n] b λl t=>l=ad (A 2)/\J b t:=by
 have r:=aV b (af o p);go_enter func94,ntmps94;go_wp2_with fail
 refine(Pu (m.ak r) g o p q s).mono ?_;rintro l v ⟨rfl,u⟩;go_wp2;go_ret
 exact⟨rfl,bp r u⟩
theorem ajf (o:fS b e l c d f i j h k) (g r s:Int) (t:ByteArray) (w:Bool) (x:¬(0<=g/\g<l)):
  O 95 #[Z e,A g,.agg #[A r,A s],.string t,.bool w] b λn y=>n=ad (.tuple #[.agg #[A 0,A 0],A 2])/\J b y:=by
 have u:=(aV b (af r s)).alloc (by simp) (af 0 0);go_enter func95,ntmps95;go_wp2_with fail
 refine(Pu (o.ak u) g r s t x).mono ?_;rintro n z ⟨rfl,q⟩;have B:=ak (a:=(H (b.heap.size+1))) (v:=A 0) q (by simp);have C:=ak (a:=(K (b.heap.size+1) 1)) (v:=A 0) q (by simp);have D:∀m,z.frozen? (K (b.heap.size+1) m)=false:=λm=>by rw[q.frozen (p:=(K (b.heap.size+1) m)) (by simp)];simp
 go_wp2;refine ey (v:=.tuple #[.agg #[A 0,A 0],A 2]) (by simp[results,results95,go_sem,B,C]) rfl ?_;exact⟨rfl,((bp u q).setCell (by simp) _).setCell (by simp) _⟩
theorem ajg (m:fS b a e c d f i j h k) (g n o:Int) (p:ByteArray) (r:¬(0<=g/\g<e)):
  O 97 #[Z a,A g,.agg #[A n,A o],.string p] b λl s=>l=ad (A 2)/\J b s:=by
 have q:=aV b (af n o);go_enter func97,ntmps97;go_wp2_with fail
 refine(Pu (m.ak q) g n o p r).mono ?_;rintro l u ⟨rfl,t⟩;go_wp2;go_ret
 exact⟨rfl,bp q t⟩
theorem ajh (q:fS b e l c d f i j h k) (g t u r n:Int) (x:¬(0<=g/\g<l)):
  O 98 #[Z e,A g,.agg #[A t,A u],A r,A n] b λo y=>o=ad (.tuple #[.agg #[A 0,A 0],A 2])/\J b y:=by
 have w:=(aV b (af t u)).alloc (by simp) (af 0 0);go_enter func98,ntmps98;go_wp2_with fail
 refine(Lp (q.ak w) g t u true x).mono ?_;rintro o z ⟨rfl,s⟩;have B:=ak (a:=(H (b.heap.size+1))) (v:=A 0) s (by simp);have C:=ak (a:=(K (b.heap.size+1) 1)) (v:=A 0) s (by simp);have D:∀m,z.frozen? (K (b.heap.size+1) m)=false:=λm=>by rw[s.frozen (p:=(K (b.heap.size+1) m)) (by simp)];simp
 go_wp2;refine ey (v:=.tuple #[.agg #[A 0,A 0],A 2]) (by simp[results,results98,go_sem,B,C]) rfl ?_;exact⟨rfl,((bp w s).setCell (by simp) _).setCell (by simp) _⟩
theorem aji (o:fS b e l c d f i j h k) (g s t q:Int) (w:Bool) (x:¬(0<=g/\g<l)):
  O 100 #[Z e,A g,.agg #[A s,A t],A q,.bool w] b λn y=>n=ad (.tuple #[.agg #[A 0,A 0],A 2])/\J b y:=by
 have u:=(aV b (af s t)).alloc (by simp) (af 0 0);go_enter func100,ntmps100;go_wp2_with fail
 refine(Lp (o.ak u) g s t true x).mono ?_;rintro n z ⟨rfl,r⟩;have B:=ak (a:=(H (b.heap.size+1))) (v:=A 0) r (by simp);have C:=ak (a:=(K (b.heap.size+1) 1)) (v:=A 0) r (by simp);have D:∀m,z.frozen? (K (b.heap.size+1) m)=false:=λm=>by rw[r.frozen (p:=(K (b.heap.size+1) m)) (by simp)];simp
 go_wp2;refine ey (v:=.tuple #[.agg #[A 0,A 0],A 2]) (by simp[results,results100,go_sem,B,C]) rfl ?_;exact⟨rfl,((bp u r).setCell (by simp) _).setCell (by simp) _⟩
theorem aaK (m:fS b a e c d f i j h k) (g p q o r n:Int) (t:¬(0<=g/\g<e)):
  O 150 #[Z a,A g,.agg #[A p,A q],A o,.agg #[A 0,A 0,A r,.bool false,A 0,A 0,.string ⟨#[]⟩,A 0,A 0,A 0,A 0,A n,A 0,A 0,.slice none 0 0]] b λl u=>l=ad (A 2)/\J b u:=by
 have s:=(aV b (af p q)).alloc (by simp) (.cells #[A 0,A 0,A r,.bool false,A 0,A 0,.string ⟨#[]⟩,A 0,A 0,A 0,A 0,A n,A 0,A 0,.slice none 0 0] 233);go_enter func150,ntmps150;go_wp2_with fail
 refine(Lp (m.ak s) g p q true t).mono ?_;rintro l w ⟨rfl,v⟩;go_wp2;go_ret
 exact⟨rfl,bp s v⟩
theorem ajj (o:fS b a e c d f i j h k) (g p q l n:Int) (s:¬(0<=g/\g<e)):
  O 101 #[Z a,A g,.agg #[A p,A q],A l,A n] b λm t=>m=ad (A 2)/\J b t:=by
 have r:=aV b (af p q);go_enter func101,ntmps101;go_wp2_with fail
 refine(aaK (o.ak r) g p q l 3 n s).mono ?_;rintro m v ⟨rfl,u⟩;go_wp2;go_ret
 exact⟨rfl,bp r u⟩
theorem ajk (n:fS b a e c d f i j h k) (g o p l:Int) (r:¬(0<=g/\g<e)):
  O 102 #[Z a,A g,.agg #[A o,A p],A l] b λm s=>m=ad (A 2)/\J b s:=by
 have q:=aV b (af o p);go_enter func102,ntmps102;go_wp2_with fail
 refine(aaK (n.ak q) g o p l 4 0 r).mono ?_;rintro m u ⟨rfl,t⟩;go_wp2;go_ret
 exact⟨rfl,bp q t⟩
structure dp (F aY:Nat->Prop) (w w':World):Prop where
 os:w'.os=w.os
 tape:w'.tape=w.tape
 output:w'.output=w.output
 size:w.heap.size<=w'.heap.size
 other:∀k,k<w.heap.size->¬F k->w'.heap[k]?=w.heap[k]?
 sub:∀k,aY k->F k\/w.heap.size<=k
theorem dp.cL{w w':World}(h:J w w'):dp R R w w':=
 ⟨h.os,h.tape,h.output,h.size,λk a _=>h.block k a,λ_ h=>.inl h⟩
structure yc (w:World) (r:Nat) (F:Nat->Prop) (N:Nat) (P:Nat->List bT) (ai:Nat->Nat->Nat) (ba aW bc:Value) (bi:Nat->Value) (cops:Nat->List bY) (cp:Nat->Nat->Value):Prop where
 bN:fS w r N ba aW bc bi cops cp ai
 ke:Apart N bi cp
 ar:∀i,i<N->(cops i).map bY.p=P i
 cc:F r
 ud:∀k,ba.ownBlock=some k->F k
 nn:∀k,aW.ownBlock=some k->F k
 wW:∀i,i<N->∀k,(bi i).ownBlock=some k->F k
 vz:∀c,c<N->∀k,(cp c 0).ownBlock=some k->F k
 fold:∀i,i<N->∀o∈cops i,∀k,o.ea.ownBlock=some k->F k
 lt:∀k,F k->k<w.heap.size
structure Own (N:Nat) (P:Nat->List bT) (ai:Nat->Nat->Nat) (c:Nat) (S:List bT):Prop where
 hc:c<N
 perm:S.Perm ((List.range N).flatMap λi=>(P i).take (ai c i))
 sort:Co S
 all:ai c c=(P c).length
 iY:∀p∈S,p.id.1<=1000
theorem Own.top{P}(h:Own a P k e m):ct m<900000:=by
 obtain⟨_,_,b⟩:=LA m;rcases b with b|⟨p,c,b⟩
 .omega
 have :=h.iY p c;omega
theorem yc.perm {P:Nat->List bT} (n:yc b e R a P k c d f i j h) (m:Nat->Nat):(kx j m a).map bY.p=(List.range a).flatMap λg=>(P g).take (m g):=by
 unfold kx;rw[List.map_flatMap];have :∀l,l<=a->((List.range l).flatMap λg=>((j g).take (m g)).map bY.p)=(List.range l).flatMap λg=>(P g).take (m g):=by
  intro l o
  induction l with
  |zero=>rfl
  |succ l ih=>rw[mM,oL,oL,ih (by omega)];simp[n.ar l (by omega),Cd]
 simp_all
theorem yc.A5{P}(g:yc b l R e P k c d f i j h)(n:Own e P k a m):nT b l e c d f i j h k a m:=
 {bN:=g.bN,hc:=n.hc,perm:=by rw[g.perm];exact n.perm,sort:=n.sort,ke:=g.ke
  all:=by rw[n.all,<-g.ar a n.hc,c2]
  iY:=λo q=>by
   have r:o.p∈m:=by refine n.perm.mem_iff.2 ?_;rw[<-g.perm (k a)];exact dF.2 ⟨o,q,rfl⟩
   have :=n.iY _ r;omega}
