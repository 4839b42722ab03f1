/- Our own text. -/
import Derived.Lib.ItoaLen
import Derived.Test.YtnkpogjiiohapaaGreatDoorA04
set_option linter.unusedSimpArgs false
set_option linter.unusedVariables false
set_option maxRecDepth 1000000
set_option maxHeartbeats 1600000
namespace Go.Proofs.YtnkpogjiiohapaaGreatDoor
open Go.RowKit Tryz
variable {a:Nat}
def vf (d:Nat):ByteArray:=⟨#[UInt8.ofNat (48+d)]⟩
theorem ahE(W:World):(Instr.slice 9 (.string ⟨#[48,49,50,51,52,53,54,55,56,57]⟩) (some (A 0)) (some (A 1)) none).run prog W=.ok (.string (vf 0)) W:=by kernel_rfl
theorem ahF(W:World):(Instr.slice 9 (.string ⟨#[48,49,50,51,52,53,54,55,56,57]⟩) (some (A 1)) (some (A 2)) none).run prog W=.ok (.string (vf 1)) W:=by kernel_rfl
theorem ahG(W:World):(Instr.slice 9 (.string ⟨#[48,49,50,51,52,53,54,55,56,57]⟩) (some (A 2)) (some (A 3)) none).run prog W=.ok (.string (vf 2)) W:=by kernel_rfl
theorem ahH(W:World):(Instr.slice 9 (.string ⟨#[48,49,50,51,52,53,54,55,56,57]⟩) (some (A 3)) (some (A 4)) none).run prog W=.ok (.string (vf 3)) W:=by kernel_rfl
theorem ahI(W:World):(Instr.slice 9 (.string ⟨#[48,49,50,51,52,53,54,55,56,57]⟩) (some (A 4)) (some (A 5)) none).run prog W=.ok (.string (vf 4)) W:=by kernel_rfl
theorem ahJ(W:World):(Instr.slice 9 (.string ⟨#[48,49,50,51,52,53,54,55,56,57]⟩) (some (A 5)) (some (A 6)) none).run prog W=.ok (.string (vf 5)) W:=by kernel_rfl
theorem ahK(W:World):(Instr.slice 9 (.string ⟨#[48,49,50,51,52,53,54,55,56,57]⟩) (some (A 6)) (some (A 7)) none).run prog W=.ok (.string (vf 6)) W:=by kernel_rfl
theorem ahL(W:World):(Instr.slice 9 (.string ⟨#[48,49,50,51,52,53,54,55,56,57]⟩) (some (A 7)) (some (A 8)) none).run prog W=.ok (.string (vf 7)) W:=by kernel_rfl
theorem ahM(W:World):(Instr.slice 9 (.string ⟨#[48,49,50,51,52,53,54,55,56,57]⟩) (some (A 8)) (some (A 9)) none).run prog W=.ok (.string (vf 8)) W:=by kernel_rfl
theorem ahN(W:World):(Instr.slice 9 (.string ⟨#[48,49,50,51,52,53,54,55,56,57]⟩) (some (A 9)) (some (A 10)) none).run prog W=.ok (.string (vf 9)) W:=by kernel_rfl
theorem ahO(d:Nat)(h:d<10)(W:World):(Instr.slice 9 (.string ⟨#[48,49,50,51,52,53,54,55,56,57]⟩) (some (A (d:Int))) (some (A ((d:Int)+1))) none).run prog W=.ok (.string (vf d)) W:=by
 have a:d=0\/d=1\/d=2\/d=3\/d=4\/d=5\/d=6\/d=7\/d=8\/d=9:=by omega
 rcases a with rfl|rfl|rfl|rfl|rfl|rfl|rfl|rfl|rfl|rfl
 .exact ahE W
 .exact ahF W
 .exact ahG W
 .exact ahH W
 .exact ahI W
 .exact ahJ W
 .exact ahK W
 .exact ahL W
 .exact ahM W
 exact ahN W
theorem ahP(h:¬a<10):Lib.decDigits a=Lib.decDigits (a/10)++[UInt8.ofNat (48+a%10)]:=by rw[Lib.decDigits,dif_neg h]
theorem ahQ(x:ByteArray):x=⟨x.data.toList.toArray⟩:=by rfl
theorem Eo{a b:ByteArray}(h:a=b):Ending.returned (.string a)=ad (.string b):=by rw[h]
def Ep (n:Int):ByteArray:=⟨(Lib.itoa n).toArray⟩
theorem Z4 (a:Nat) (m:a<=9223372036854775807) (w:World):
  O 194 #[A a] w λe g=>e=ad (.string ⟨(Lib.decDigits a).toArray⟩)/\g=w:=by
 have h:(Lib.decDigits a).length<=20:=by rw[Lib.decDigits_length];exact Lib.nDigits_le20 a (by omega)
 have i:=h;have n:¬(a:Int)= -9223372036854775808:=by omega
 go_enter func194,ntmps194;go_wp2;go_loop [0,3] (λb s=>∃q:Nat,∃t:ByteArray,q<=a/\b=A q/\s=.string t/\Hq (Lib.decDigits a=Lib.decDigits q++t.data.toList)) (λb _=>(intOf b).toNat)
 case atStart=>exact⟨a,⟨#[]⟩,bW _,rfl,rfl,by simp[Hq]⟩
 case round=>
  obtain⟨q,t,p,rfl,rfl,c⟩:=hrel;have r:t.size<=20:=by
   have e:=kq List.length c.o;simp only[dh]at e;have u:t.data.toList.length=t.data.size:=by rfl
   have v:=i;have x:t.data.size=t.size:=rfl;omega
  have j:=λW=>ahO (q%10) (by omega) W
  rw[show((q%10:Nat):Int)=(q:Int)%10 by omega]at j;have y:(vf (q%10)).size=1:=rfl;have k:(vf (q%10)++t).data.toList=UInt8.ofNat (48+q%10)::t.data.toList:=by rfl
  have f:=k;by_cases d:q<10
  .have l:(q:Int)/10=0:=by omega
   go_wp2;go_ret
   refine⟨Eo ?_,rfl⟩;have e:=c.o;rw[Lib.decDigits_one d]at e;rw[e,ahQ (vf (q%10)++t),f,Nat.mod_eq_of_lt d];rfl
  have l:¬(q:Int)/10=0:=by omega
  go_wp2;go_round
  case rel=>refine⟨q/10,_,by omega,by go_num,rfl,?_⟩;have e:=c.o;rw[ahP d]at e;show _=_;rw[e,f];simp
  case measure=>simp[intOf];omega
theorem ahR (n:Int) (j: -9223372036854775808<=n) (l:n<=9223372036854775807) (w:World):
  O 194 #[A n] w λe c=>e=ad (.string (Ep n))/\c=w:=by
 by_cases f:n<0
 .by_cases g:n= -9223372036854775808
  .subst g;go_enter func194,ntmps194;go_wp2;go_ret
   exact⟨Eo (by decide+kernel),rfl⟩
  obtain⟨k,b⟩:=Ce (a:= -n) (by omega);have h:k<=9223372036854775807:=by omega
  have m:(Lib.decDigits k).length<=20:=by rw[Lib.decDigits_length];exact Lib.nDigits_le20 k (by omega)
  have p:(ByteArray.mk (Lib.decDigits k).toArray).size<=20:=by assumption
  have d:=ag b;clear b;go_enter func194,ntmps194;go_wp2_with (go_at_call 194;go_must (rw[d.o];refine((Z4 k h) _).mono ?_;rintro e c ⟨rfl,rfl⟩))
  go_ret
  refine⟨Eo ?_,rfl⟩;have e:Lib.itoa n=45::Lib.decDigits k:=by unfold Lib.itoa;rw[bn f];congr 2;have :=d.o;omega
  unfold Ep;rw[e];rfl
 obtain⟨k,b⟩:=Ce (a:=n) (by omega);subst b;refine(Z4 k (by omega) w).mono λe c ⟨q,i⟩=>⟨?_,i⟩
 assumption
theorem Z8(n:Int)(a: -9223372036854775808<=n)(b:n<=9223372036854775807):(Ep n).size<=21:=by
 have :=Lib.itoa_length_le n a b
 assumption
def mb (a:PId->ByteArray) (h:dr):ByteArray:=if fv h.obj.1 h.obj.2 0 0 then Ep h.kW else a h.obj
def bar:ByteArray:=⟨#[124]⟩
def nj (a:PId->ByteArray):List dr->ByteArray
 |[]=>⟨#[]⟩
 |h::r=>r.foldl (λs x=>(s++bar)++mb a x) (mb a h)
theorem ahS(a:PId->ByteArray)(l:List dr)(x:dr)(h:l≠[]):nj a (l++[x])=(nj a l++bar)++mb a x:=by
 cases l with
 |nil=>exact absurd rfl h
 |cons y l=>simp[nj,Ax]
theorem mc(a b:ByteArray):(a++b).size=a.size+b.size:=by simp
theorem empty_append(x:ByteArray):(⟨#[]⟩:ByteArray)++x=x:=by rfl
theorem TH(b:PId->ByteArray){c:List dr}(d:a<c.length)(f:0<a):nj b (c.take (a+1))=(nj b (c.take a)++bar)++mb b c[a]:=by rw[lx d];exact ahS b _ _ (by intro e;have :=kq List.length e;rw[gU,sa]at this;omega)
theorem ahT(a:PId->ByteArray)(b:List dr)(k:Nat)(c:k<b.length):(nj a (b.take k)).size<=(nj a (b.take (k+1))).size:=by
 by_cases d:0<k
 .rw[TH a c d,mc,mc];omega
 have :k=0:=by omega
 subst this;show 0<=_;omega
theorem TI(a:PId->ByteArray)(b:List dr):∀(j k:Nat),k+j=b.length->(nj a (b.take k)).size<=(nj a b).size
 |0,k,h=>by simp_all
 |j+1,k,h=>cd (ahT a b k (by omega)) (TI a b j (k+1) (by omega))
theorem ahU(a:PId->ByteArray)(b:List dr)(k:Nat)(c:k<b.length):(mb a b[k]).size<=(nj a b).size:=by
 refine cd ?_ (TI a b (b.length-(k+1)) (k+1) (by omega));by_cases d:0<k
 .rw[TH a c d,mc];omega
 have :k=0:=by omega
 subst this;rw[lx c];exact bW _
def mv (n:Int):Prop:= -9223372036854775808<=n/\n<=9223372036854775807
theorem ahV (B t d:Nat) (E:Value) (F:List ep) (b:PId->ByteArray) (G:PId->Prop) (q:Nat) (Z9:q<=4)
  (Y:∀(x:PId) (W:World),G x->gG B t W d E F->O 153 #[Z d,.agg #[A x.1,A x.2],A ((q:Int)+1)] W λe r=>e=ad (.string (b x))/\J W r)
  (v:Value) (c:List dr) (w:World) (ao:gG B t w d E F) (h:mp w v c) (aq:∀x∈c,fv x.obj.1 x.obj.2 0 0=false->G x.obj) (hn:∀x∈c,mv x.kW) (cw:(nj b c).size<=1125899906842624):
  O 177 #[Z d,v,A q] w λe r=>e=ad (.string (nj b c))/\J w r:=by
 obtain⟨a,cap,rfl,kt,dM,ku⟩:=bz h;unfold maxLen at dM;have dX:=ku;have aT:=h;have I:=ao;have zp:=Y;have jP:=aq;have fF:=hn;go_enter func177,ntmps177;go_wp2;go_loopw [7,8] (λs i wr=>∃k:Nat,k<=c.length/\i=A k/\s=.string (nj b (c.take k))/\J w wr) (λ_ i _=>c.length-(intOf i).toNat)
 case atStart=>exact⟨0,b6 _,rfl,rfl,ca _ _⟩
 case round=>
  obtain⟨k,hk,rfl,rfl,l⟩:=hrel;have vg:=TI b c (c.length-k) k (by omega);by_cases m:k<c.length
  .obtain⟨g,rfl⟩:=dX k m;obtain⟨d0,d1,L,M,N⟩:=mp.cells aT rfl k m;replace L:=ak l L;replace M:=ak l M;replace N:=ak l N;have hit:=ahU b c k m;have heq:=xS;have p:=fF c[k] (dB _);have P:=ahR c[k].kW p.1 p.2;have tb:bar.size=1:=rfl;have Q:=λn=>TH b m n
   have R:=show k=0->nj b (c.take (k+1))=mb b c[k] from λe=>by subst e;rw[lx m];rfl
   have hbe:((⟨#[124]⟩:ByteArray))=bar:=rfl;generalize bS:nj b (c.take k)=S at *;have kc:=bS;have U:=show k=0->∀x,S++x=x from λe x=>by rw[<-kc,e];rfl
   have f:=l;have hSb:(S++bar).size=S.size+1:=mc _ _;cases u:fv c[k].obj.1 c[k].obj.2 0 0
   .have HGx:=jP c[k] (dB _) u;have j:=ag (show mb b c[k]=b c[k].obj by unfold mb;rw[u];rfl);have hTs:(b c[k].obj).size<=1125899906842624:=by rw[<-j.o];omega
    have X:=λW=>zp c[k].obj W HGx
    by_cases n:0<k
    .go_wp2_with (go_at_call 153;go_must (refine(X _ (I.ak f)).mono ?_;rintro e y ⟨rfl,z⟩;have C:=ag z))
     go_roundw
     case rel=>exact⟨k+1,by omega,by go_num,by rw[Q n,j.o],bp f C.o⟩
     case measure=>simp[intOf];omega
    go_wp2_with (go_at_call 153;go_must (refine(X _ (I.ak f)).mono ?_;rintro e y ⟨rfl,z⟩;have C:=ag z))
    go_roundw
    case rel=>exact⟨k+1,by omega,by go_num,by rw[R (by omega),j.o,U (by omega)],bp f C.o⟩
    case measure=>simp[intOf];omega
   have j:=ag (show mb b c[k]=Ep c[k].kW by unfold mb;rw[u];rfl);have hTs:=Z8 c[k].kW p.1 p.2;by_cases n:0<k
   .go_wp2_with (go_at_call 194;go_must (refine(P _).mono ?_;rintro e y ⟨rfl,D⟩;subst D))
    go_roundw
    case rel=>exact⟨k+1,by omega,by go_num,by rw[Q n,j.o],f⟩
    case measure=>simp[intOf];omega
   go_wp2_with (go_at_call 194;go_must (refine(P _).mono ?_;rintro e y ⟨rfl,D⟩;subst D))
   go_roundw
   case rel=>exact⟨k+1,by omega,by go_num,by rw[R (by omega),j.o,U (by omega)],f⟩
   case measure=>simp[intOf];omega
  go_wp2;go_ret
  refine⟨Eo ?_,l⟩;rw[kp (by omega)]
def comma:ByteArray:=⟨#[44]⟩
def colon:ByteArray:=⟨#[58]⟩
def qc (b:PId->ByteArray) (d:Bool) (c:ByteArray) (s:cK):ByteArray:=
 if s.aj.length=0 then c
 else
  let a:=if c.toList.isEmpty then c else c++comma
  (if d then a else(a++s.key)++colon)++nj b s.aj
def oq (a:PId->ByteArray) (b:Bool) (M:List cK):ByteArray:=M.foldl (qc a b) ⟨#[]⟩
def Ct (a:PId->ByteArray) (b:Bool) (M:List cK):ByteArray:=
 if b then((⟨#[91]⟩:ByteArray)++oq a b M)++⟨#[93]⟩ else((⟨#[123]⟩:ByteArray)++oq a b M)++⟨#[125]⟩
theorem Pp(b:PId->ByteArray)(c:Bool){M:List cK}(h:a<M.length):oq b c (M.take (a+1))=qc b c (oq b c (M.take a)) M[a]:=by unfold oq;rw[lx h,Ax];rfl
theorem ahW(a:PId->ByteArray)(c:Bool)(b:ByteArray)(s:cK):b.size<=(qc a c b s).size:=by
 unfold qc;split
 .simp
 split <;>split <;>simp only[mc]<;>omega
theorem TJ(a:PId->ByteArray)(b:Bool)(M:List cK):∀(j k:Nat),k+j=M.length->(oq a b (M.take k)).size<=(oq a b M).size
 |0,k,h=>by simp_all
 |j+1,k,h=>by refine cd ?_ (TJ a b M j (k+1) (by omega));rw[Pp a b (by omega)];exact ahW a b _ _
theorem ahX(a:PId->ByteArray)(b:Bool)(c:ByteArray)(s:cK)(h:¬s.aj.length=0):(nj a s.aj).size<=(qc a b c s).size/\(b=false->c.size+s.key.size+1<=(qc a b c s).size):=by
 unfold qc;rw[a7 h];constructor
 .simp
 intro d;rw[d];have :colon.size=1:=rfl;simp only[mc,r8,fM];split <;>(try simp only[mc])<;>omega
theorem ahY(a:PId->ByteArray)(b:Bool)(M:List cK)(n:Nat)(c:n<M.length):(nj a M[n].aj).size<=(oq a b M).size/\(b=false->¬M[n].aj.length=0->M[n].key.size<=(oq a b M).size):=by
 have d:=TJ a b M (M.length-(n+1)) (n+1) (by omega);rw[Pp a b c]at d;by_cases h:M[n].aj.length=0
 .have :M[n].aj=[]:=D7 h;rw[this];exact⟨by show 0<=_;omega,λ_ e=>absurd rfl e⟩
 have f:=ahX a b (oq a b (M.take n)) M[n] h;exact⟨by omega,λg _=>by have :=f.2 g;omega⟩
def TK (M:List bX):Prop:=M.Pairwise λa b=>jn a.key b.key=true
theorem TL(a:ByteArray):jn a a=false:=Td _
theorem TM{a b c:ByteArray}(d:jn a b=true)(e:jn b c=true):jn a c=true:=Te _ _ _ d e
def I1 (M:List bX) (n:Nat):ByteArray:=if h:0<n/\n<=M.length then(M[n-1]'(by omega)).key else⟨#[]⟩
theorem aad(M:List bX):I1 M 0=⟨#[]⟩:=by rfl
theorem Ls(M:List bX)(h:a<M.length):I1 M (a+1)=M[a].key:=by unfold I1;rw[dif_pos ⟨by omega,by omega⟩];rfl
theorem ahZ{r}{l M:List bX}(d:M.Perm l)(u:TK M)(v:∀s∈l,jn ⟨#[]⟩ s.key=true){n:Nat}(p:n<l.length)(h:Tc (I1 M n) l r):
  ∃i,∃c:i<l.length,r=(i:Int)/\l[i]=M[n]'(by rw[d.length_eq];exact p):=by
 have g:n<M.length:=by rw[d.length_eq];exact p
 have k:=λi j c a w=>tT.1 u i j c a w
 obtain⟨j,a,m⟩:∃j,∃a:j<l.length,l[j]=M[n]:=by obtain⟨j,a,e⟩:=mm.1 (d.mem_iff.1 (dB (l:=M) g));exact⟨j,a,e⟩
 have o:jn (I1 M n) l[j].key=true:=by
  rw[m];cases n with
  |zero=>rw[aad,<-m];exact v _ (dB _)
  |succ n=>rw[Ls M (by omega)];exact k n (n+1) (by omega) g (by omega)
 rcases h with⟨_,b⟩|⟨i,c,x,b,y⟩
 .rw[b j a]at o;cases o
 refine⟨i,c,x,?_⟩;obtain⟨q,t,eq⟩:=mm.1 (d.mem_iff.2 (dB (l:=l) c));by_cases z:q=n
 .simp_all
 by_cases B:q<n
 .obtain⟨f,rfl⟩:∃f,n=f+1:=⟨n-1,by omega⟩;rw[Ls M (by omega),<-eq]at b;by_cases e:q=f
  .subst e;rw[TL]at b;cases b
  have :=TM b (k q f t (by omega) (by omega));rw[TL]at this;cases this
 have :=y j a o;rw[m,<-eq,k n q g t (by omega)]at this;cases this
