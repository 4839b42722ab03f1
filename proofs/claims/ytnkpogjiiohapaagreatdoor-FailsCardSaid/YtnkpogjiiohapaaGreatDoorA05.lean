/- Our own text. -/
import Derived.Lib.ItoaNum
import Derived.Lib.ItoaLen
import Derived.Test.YtnkpogjiiohapaaGreatDoorA04
set_option linter.unusedSimpArgs false
set_option linter.unusedVariables false
set_option maxRecDepth 1000000
set_option maxHeartbeats 1600000
namespace Go.Proofs.YtnkpogjiiohapaaGreatDoor
open Go.RowKit Tryz
variable {a:Nat}
def rP (d:Nat):ByteArray:=⟨#[UInt8.ofNat (48+d)]⟩
theorem acR(W:World):(Instr.slice 9 (.string ⟨#[48,49,50,51,52,53,54,55,56,57]⟩) (some (A 0)) (some (A 1)) none).run prog W=.ok (.string (rP 0)) W:=by kernel_rfl
theorem acS(W:World):(Instr.slice 9 (.string ⟨#[48,49,50,51,52,53,54,55,56,57]⟩) (some (A 1)) (some (A 2)) none).run prog W=.ok (.string (rP 1)) W:=by kernel_rfl
theorem acT(W:World):(Instr.slice 9 (.string ⟨#[48,49,50,51,52,53,54,55,56,57]⟩) (some (A 2)) (some (A 3)) none).run prog W=.ok (.string (rP 2)) W:=by kernel_rfl
theorem acU(W:World):(Instr.slice 9 (.string ⟨#[48,49,50,51,52,53,54,55,56,57]⟩) (some (A 3)) (some (A 4)) none).run prog W=.ok (.string (rP 3)) W:=by kernel_rfl
theorem acV(W:World):(Instr.slice 9 (.string ⟨#[48,49,50,51,52,53,54,55,56,57]⟩) (some (A 4)) (some (A 5)) none).run prog W=.ok (.string (rP 4)) W:=by kernel_rfl
theorem acW(W:World):(Instr.slice 9 (.string ⟨#[48,49,50,51,52,53,54,55,56,57]⟩) (some (A 5)) (some (A 6)) none).run prog W=.ok (.string (rP 5)) W:=by kernel_rfl
theorem acX(W:World):(Instr.slice 9 (.string ⟨#[48,49,50,51,52,53,54,55,56,57]⟩) (some (A 6)) (some (A 7)) none).run prog W=.ok (.string (rP 6)) W:=by kernel_rfl
theorem acY(W:World):(Instr.slice 9 (.string ⟨#[48,49,50,51,52,53,54,55,56,57]⟩) (some (A 7)) (some (A 8)) none).run prog W=.ok (.string (rP 7)) W:=by kernel_rfl
theorem acZ(W:World):(Instr.slice 9 (.string ⟨#[48,49,50,51,52,53,54,55,56,57]⟩) (some (A 8)) (some (A 9)) none).run prog W=.ok (.string (rP 8)) W:=by kernel_rfl
theorem ac0(W:World):(Instr.slice 9 (.string ⟨#[48,49,50,51,52,53,54,55,56,57]⟩) (some (A 9)) (some (A 10)) none).run prog W=.ok (.string (rP 9)) W:=by kernel_rfl
theorem ac1(d:Nat)(h:d<10)(W:World):(Instr.slice 9 (.string ⟨#[48,49,50,51,52,53,54,55,56,57]⟩) (some (A (d:Int))) (some (A ((d:Int)+1))) none).run prog W=.ok (.string (rP d)) W:=by
 have a:d=0\/d=1\/d=2\/d=3\/d=4\/d=5\/d=6\/d=7\/d=8\/d=9:=by omega
 rcases a with rfl|rfl|rfl|rfl|rfl|rfl|rfl|rfl|rfl|rfl
 ·exact acR W
 ·exact acS W
 ·exact acT W
 ·exact acU W
 ·exact acV W
 ·exact acW W
 ·exact acX W
 ·exact acY W
 ·exact acZ W
 exact ac0 W
theorem ac2(h:¬a<10):Lib.decDigits a=Lib.decDigits (a/10)++[UInt8.ofNat (48+a%10)]:=by rw[Lib.decDigits,dif_neg h]
theorem ac3(x:ByteArray):x=⟨x.data.toList.toArray⟩:=by cases x;simp
theorem A0{a b:ByteArray}(h:a=b):Ending.returned (.string a)=.returned (.string b):=by rw[h]
def ze (n:Int):ByteArray:=⟨(Lib.itoa n).toArray⟩
theorem Ut(a:Nat)(n:a<=9223372036854775807)(w:World):
  O 194 #[A a] w fun e i=>e=.returned (.string ⟨(Lib.decDigits a).toArray⟩)/\i=w:=by
 have f:(Lib.decDigits a).length<=20:=by rw[Lib.decDigits_length];exact Lib.nDigits_le20 a (by omega)
 have j:=aa f;clear f;have p:¬(a:Int)= -9223372036854775808:=by omega
 go_enter func194,ntmps194;go_wp2;go_loop [0,3] (fun b s=>∃q:Nat,∃t:ByteArray,q<=a/\b=A q/\s=.string t/\Hq (Lib.decDigits a=Lib.decDigits q++t.data.toList)) (fun b _=>(intOf b).toNat)
 case atStart=>exact⟨a,⟨#[]⟩,apX _,rfl,rfl,by simp[Hq]⟩
 case round=>
  obtain⟨q,t,r,rfl,rfl,c⟩:=hrel;have u:t.size<=20:=by
   have e:=congrArg List.length c.o;simp only[ap4]at e;have v:t.data.toList.length=t.data.size:=asv;have x:=j.o;have y:t.data.size=t.size:=rfl;omega
  have k:=fun W=>ac1 (q%10) (by omega) W
  rw[show((q%10:Nat):Int)=(q:Int)%10 by omega]at k;have z:(rP (q%10)).size=1:=rfl;have g:(rP (q%10)++t).data.toList=UInt8.ofNat (48+q%10)::t.data.toList:=by
   rw[ByteArray.data_append];simp[rP]
  have h:=aa g;clear g;by_cases d:q<10
  ·have l:(q:Int)/10=0:=by omega
   go_wp2;go_ret
   refine⟨A0 ?_,rfl⟩;have e:=c.o;rw[Lib.decDigits_one d]at e;have m:=ac3 (rP (q%10)++t);rw[e,m,h.o,Nat.mod_eq_of_lt d];rfl
  have l:¬(q:Int)/10=0:=by omega
  go_wp2;go_round
  case rel=>
   refine⟨q/10,_,by omega,by go_num,rfl,?_⟩;have e:=c.o;rw[ac2 d]at e;show _=_;rw[e,h.o];simp
  case measure=>simp[intOf];omega
theorem ac4(n:Int)(p: -9223372036854775808<=n)(q:n<=9223372036854775807)(w:World):
  O 194 #[A n] w fun e c=>e=.returned (.string (ze n))/\c=w:=by
 by_cases f:n<0
 ·by_cases g:n= -9223372036854775808
  ·subst g;go_enter func194,ntmps194;go_wp2;go_ret
   exact⟨A0 (by decide+kernel),rfl⟩
  obtain⟨k,b⟩:=arl (a:= -n) (by omega);have h:k<=9223372036854775807:=by omega
  have i:(Lib.decDigits k).length<=20:=by rw[Lib.decDigits_length];exact Lib.nDigits_le20 k (by omega)
  have r:(ByteArray.mk (Lib.decDigits k).toArray).size<=20:=by show(Lib.decDigits k).toArray.size<=20;simpa using i
  have d:=aa b;clear b;have j:=aa (Ut k h);go_enter func194,ntmps194;go_wp2_with (go_at_call 194;go_must (rw[d.o];refine(j.o _).mono ?_;rintro e c ⟨rfl,rfl⟩))
  go_ret
  refine⟨A0 ?_,rfl⟩;have e:Lib.itoa n=45::Lib.decDigits k:=by
   unfold Lib.itoa;rw[if_pos f];congr 2;have :=d.o;omega
  unfold ze;rw[e];apply arS;simp
 obtain⟨k,b⟩:=arl (a:=n) (by omega);subst b;refine(Ut k (by omega) w).mono fun e c ⟨l,m⟩=>⟨?_,m⟩
 rw[l];unfold ze Lib.itoa;rw[if_neg (by omega)];rfl
theorem Ux(n:Int)(a: -9223372036854775808<=n)(b:n<=9223372036854775807):(ze n).size<=21:=by
 have :=Lib.itoa_length_le n a b;show(Lib.itoa n).toArray.size<=21;simpa using this
def kP (a:PId->ByteArray) (h:cP):ByteArray:=if eF h.obj.1 h.obj.2 0 0 then ze h.num else a h.obj
def bar:ByteArray:=⟨#[124]⟩
def lU (a:PId->ByteArray):List cP->ByteArray
 |[]=>⟨#[]⟩
 |h::r=>r.foldl (fun s x=>(s++bar)++kP a x) (kP a h)
theorem ac5(a:PId->ByteArray)(l:List cP)(x:cP)(h:l≠[]):lU a (l++[x])=(lU a l++bar)++kP a x:=by
 cases l with
 |nil=>exact absurd rfl h
 |cons y l=>simp[lU,ara]
theorem kA(a b:ByteArray):(a++b).size=a.size+b.size:=by
 show(a++b).data.size=_;rw[ByteArray.data_append];simp
theorem empty_append(x:ByteArray):(⟨#[]⟩:ByteArray)++x=x:=by apply arS;simp
theorem OO(b:PId->ByteArray){c:List cP}(d:a<c.length)(f:0<a):lU b (c.take (a+1))=(lU b (c.take a)++bar)++kP b c[a]:=by
 rw[aqp d];exact ac5 b _ _ (by intro e;have :=congrArg List.length e;rw[aqg,aqC]at this;omega)
theorem ac6(a:PId->ByteArray)(b:List cP)(k:Nat)(c:k<b.length):(lU a (b.take k)).size<=(lU a (b.take (k+1))).size:=by
 by_cases d:0<k
 ·rw[OO a c d,kA,kA];omega
 have :k=0:=by omega
 subst this;show 0<=_;omega
theorem OP(a:PId->ByteArray)(b:List cP):∀(j k:Nat),k+j=b.length->(lU a (b.take k)).size<=(lU a b).size
 |0,k,h=>by rw[aql (by omega)];exact apX _
 |j+1,k,h=>ap0 (ac6 a b k (by omega)) (OP a b j (k+1) (by omega))
theorem ac7(a:PId->ByteArray)(b:List cP)(k:Nat)(c:k<b.length):(kP a b[k]).size<=(lU a b).size:=by
 refine ap0 ?_ (OP a b (b.length-(k+1)) (k+1) (by omega));by_cases d:0<k
 ·rw[OO a c d,kA];omega
 have :k=0:=by omega
 subst this;rw[aqp c];exact apX _
def k7 (n:Int):Prop:= -9223372036854775808<=n/\n<=9223372036854775807
theorem ac8(B t d:Nat)(E:Value)(F:List dE)(b:PId->ByteArray)(G:PId->Prop)(r:Nat)(Uy:r<=4)(I:∀(x:PId) (W:World),G x->fq B t W d E F->O 153 #[Z d,.agg #[A x.1,A x.2],A ((r:Int)+1)] W fun e u=>e=.returned (.string (b x))/\J W u)(v:Value)(c:List cP)(w:World)(L:fq B t w d E F)(h:k1 w v c)(M:∀x∈c,eF x.obj.1 x.obj.2 0 0=false->G x.obj)(N:∀x∈c,k7 x.num)(hsz:(lU b c).size<=1125899906842624):
  O 177 #[Z d,v,A r] w fun e u=>e=.returned (.string (lU b c))/\J w u:=by
 obtain⟨a,cap,rfl,jq,cZ,P⟩:=bm h;unfold maxLen at cZ;have dn:=aa P;clear P;have az:=aa h;clear h;have Q:=aa L;clear L;have tT:=aa I;clear I;have fh:=aa M;clear M;have eL:=aa N;clear N;go_enter func177,ntmps177;go_wp2;go_loopw [7,8] (fun s i wr=>∃k:Nat,k<=c.length/\i=A k/\s=.string (lU b (c.take k))/\J w wr) (fun _ i _=>c.length-(intOf i).toNat)
 case atStart=>exact⟨0,apZ _,rfl,rfl,apY _ _⟩
 case round=>
  obtain⟨k,hk,rfl,rfl,j⟩:=hrel;have qZ:=OP b c (c.length-k) k (by omega);by_cases m:k<c.length
  ·obtain⟨g,rfl⟩:=dn.o k m;obtain⟨d0,d1,R,U,X⟩:=k1.cells az.o rfl k m;replace R:=ae j R;replace U:=ae j U;replace X:=ae j X;clear d0 d1;have hit:=ac7 b c k m;have heq:=uZ;have q:=eL.o c[k] (ap6 _);have Y:=aa (ac4 c[k].num q.1 q.2);have sC:bar.size=1:=rfl;have UA:=aa (fun n=>OO b m n);have UB:=aa (show k=0->lU b (c.take (k+1))=kP b c[k] from fun e=>by subst e;rw[aqp m];rfl);have UC:((⟨#[124]⟩:ByteArray))=bar:=rfl;generalize b0:lU b (c.take k)=S at *;have jL:=aa b0;clear b0;have cT:=aa (show k=0->∀x,S++x=x from fun e x=>by rw[<-jL.o,e];exact empty_append x);have f:=aa j;clear j;have hSb:(S++bar).size=S.size+1:=kA _ _;cases y:eF c[k].obj.1 c[k].obj.2 0 0
   ·have HGx:=fh.o c[k] (ap6 _) y;have l:=aa (show kP b c[k]=b c[k].obj by unfold kP;rw[y];rfl);have hTs:(b c[k].obj).size<=1125899906842624:=by rw[<-l.o];omega
    have UD:=aa (fun W=>tT.o c[k].obj W HGx);by_cases n:0<k
    ·go_wp2_with (go_at_call 153;go_must (refine(UD.o _ (Q.o.ae f.o)).mono ?_;rintro e z ⟨rfl,p⟩;have C:=aa p;clear p))
     go_roundw
     case rel=>exact⟨k+1,by omega,by go_num,by rw[UA.o n,l.o],f.o.trans (C.o.mono f.o.size)⟩
     case measure=>simp[intOf];omega
    go_wp2_with (go_at_call 153;go_must (refine(UD.o _ (Q.o.ae f.o)).mono ?_;rintro e z ⟨rfl,p⟩;have C:=aa p;clear p))
    go_roundw
    case rel=>exact⟨k+1,by omega,by go_num,by rw[UB.o (by omega),l.o,cT.o (by omega)],f.o.trans (C.o.mono f.o.size)⟩
    case measure=>simp[intOf];omega
   have l:=aa (show kP b c[k]=ze c[k].num by unfold kP;rw[y];rfl);have hTs:=Ux c[k].num q.1 q.2;by_cases n:0<k
   ·go_wp2_with (go_at_call 194;go_must (refine(Y.o _).mono ?_;rintro e z ⟨rfl,D⟩;subst D))
    go_roundw
    case rel=>exact⟨k+1,by omega,by go_num,by rw[UA.o n,l.o],f.o⟩
    case measure=>simp[intOf];omega
   go_wp2_with (go_at_call 194;go_must (refine(Y.o _).mono ?_;rintro e z ⟨rfl,D⟩;subst D))
   go_roundw
   case rel=>exact⟨k+1,by omega,by go_num,by rw[UB.o (by omega),l.o,cT.o (by omega)],f.o⟩
   case measure=>simp[intOf];omega
  go_wp2;go_ret
  refine⟨A0 ?_,j⟩;rw[aql (by omega)]
def comma:ByteArray:=⟨#[44]⟩
def colon:ByteArray:=⟨#[58]⟩
def om (b:PId->ByteArray) (d:Bool) (c:ByteArray) (s:b9):ByteArray:=
 if s.ad.length=0 then c
 else
  let a:=if c.toList.isEmpty then c else c++comma
  (if d then a else(a++s.key)++colon)++lU b s.ad
def mN (a:PId->ByteArray) (b:Bool) (M:List b9):ByteArray:=M.foldl (om a b) ⟨#[]⟩
def zf (a:PId->ByteArray) (b:Bool) (M:List b9):ByteArray:=
 if b then((⟨#[91]⟩:ByteArray)++mN a b M)++⟨#[93]⟩ else((⟨#[123]⟩:ByteArray)++mN a b M)++⟨#[125]⟩
theorem K7(b:PId->ByteArray)(c:Bool){M:List b9}(h:a<M.length):mN b c (M.take (a+1))=om b c (mN b c (M.take a)) M[a]:=by
 unfold mN;rw[aqp h,ara];rfl
theorem ac9(a:PId->ByteArray)(c:Bool)(b:ByteArray)(s:b9):b.size<=(om a c b s).size:=by
 unfold om;split
 ·exact apX _
 split <;>split <;>simp only[kA]<;>omega
theorem OQ(a:PId->ByteArray)(b:Bool)(M:List b9):∀(j k:Nat),k+j=M.length->(mN a b (M.take k)).size<=(mN a b M).size
 |0,k,h=>by rw[aql (by omega)];exact apX _
 |j+1,k,h=>by
  refine ap0 ?_ (OQ a b M j (k+1) (by omega));rw[K7 a b (by omega)];exact ac9 a b _ _
theorem ada(a:PId->ByteArray)(b:Bool)(c:ByteArray)(s:b9)(h:¬s.ad.length=0):(lU a s.ad).size<=(om a b c s).size/\(b=false->c.size+s.key.size+1<=(om a b c s).size):=by
 unfold om;rw[if_neg h];constructor
 ·simp only[kA];omega
 intro d;rw[d];have :colon.size=1:=rfl;simp only[kA,aqM,if_false];split <;>(try simp only[kA])<;>omega
theorem adb(a:PId->ByteArray)(b:Bool)(M:List b9)(n:Nat)(c:n<M.length):(lU a M[n].ad).size<=(mN a b M).size/\(b=false->¬M[n].ad.length=0->M[n].key.size<=(mN a b M).size):=by
 have d:=OQ a b M (M.length-(n+1)) (n+1) (by omega);rw[K7 a b c]at d;by_cases h:M[n].ad.length=0
 ·have :M[n].ad=[]:=arb h;rw[this];exact⟨by show 0<=_;omega,fun _ e=>absurd rfl e⟩
 have f:=ada a b (mN a b (M.take n)) M[n] h;exact⟨by omega,fun g _=>by have :=f.2 g;omega⟩
def K8 (M:List bD):Prop:=M.Pairwise fun a b=>hD a.key b.key=true
theorem OR(a:ByteArray):hD a a=false:=Ob _
theorem OS{a b c:ByteArray}(d:hD a b=true)(e:hD b c=true):hD a c=true:=Oc _ _ _ d e
def C5 (M:List bD) (n:Nat):ByteArray:=if h:0<n/\n<=M.length then(M[n-1]'(by omega)).key else⟨#[]⟩
theorem UE(M:List bD):C5 M 0=⟨#[]⟩:=by unfold C5;rw[dif_neg (by omega)]
theorem Hw(M:List bD)(h:a<M.length):C5 M (a+1)=M[a].key:=by unfold C5;rw[dif_pos ⟨by omega,by omega⟩];rfl
theorem ade{r}{l M:List bD}(d:M.Perm l)(u:K8 M)(v:∀s∈l,hD ⟨#[]⟩ s.key=true){n:Nat}(p:n<l.length)(h:Oa (C5 M n) l r):
  ∃i,∃b:i<l.length,r=(i:Int)/\l[i]=M[n]'(by rw[d.length_eq];exact p):=by
 have g:n<M.length:=by rw[d.length_eq];exact p
 have k:∀i j (b:i<M.length) (a:j<M.length),i<j->hD M[i].key M[j].key=true:=fun i j b a w=>aqT.1 u i j b a w
 obtain⟨j,a,m⟩:∃j,∃a:j<l.length,l[j]=M[n]:=by
  obtain⟨j,a,e⟩:=aqv.1 (d.mem_iff.1 (ap6 (l:=M) g));exact⟨j,a,e⟩
 have o:hD (C5 M n) l[j].key=true:=by
  rw[m];cases n with
  |zero=>rw[UE];rw[<-m];exact v _ (ap6 _)
  |succ n=>rw[Hw M (by omega)];exact k n (n+1) (by omega) g (by omega)
 rcases h with⟨_,c⟩|⟨i,b,x,c,y⟩
 ·rw[c j a]at o;cases o
 refine⟨i,b,x,?_⟩;obtain⟨q,t,eq⟩:=aqv.1 (d.mem_iff.2 (ap6 (l:=l) b));by_cases z:q=n
 ·subst z;exact eq.symm
 by_cases B:q<n
 ·obtain⟨f,rfl⟩:∃f,n=f+1:=⟨n-1,by omega⟩;rw[Hw M (by omega),<-eq]at c;by_cases e:q=f
  ·subst e;rw[OR]at c;cases c
  have :=OS c (k q f t (by omega) (by omega));rw[OR]at this;cases this
 have :=y j a o;rw[m,<-eq,k n q g t (by omega)]at this;cases this
end Go.Proofs.YtnkpogjiiohapaaGreatDoor
