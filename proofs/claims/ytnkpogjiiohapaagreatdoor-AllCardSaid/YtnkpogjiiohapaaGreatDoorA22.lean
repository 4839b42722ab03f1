/- Our own text. -/
import Derived.Test.YtnkpogjiiohapaaGreatDoorA21
import Derived.Test.YtnkpogjiiohapaaGreatDoorA14
set_option linter.unusedSimpArgs false
set_option linter.unusedVariables false
set_option maxRecDepth 1000000
set_option maxHeartbeats 8000000
namespace Go.Proofs.YtnkpogjiiohapaaGreatDoor
section
open Go.RowKit Tryz
variable {a d f h:Nat}{b:cZ}{c:World}{e:List bA}{i:bA}
def BQ (a b:dr):Bool:= !gj b.dt a.dt
def yM (l:List dr):List dr:=l.mergeSort BQ
theorem ans(a b c:dr)(d:BQ a b=true)(e:BQ b c=true):BQ a c=true:=by unfold BQ at *;simp only[Za,Da]at *;omega
theorem ant(a b:dr):(BQ a b||BQ b a)=true:=by
 unfold BQ;cases h:gj b.dt a.dt
 .simp
 have :gj a.dt b.dt=false:=by rw[rU]at h;rw[Da];omega
 simp[this]
theorem Wu(l:List dr):(yM l).Perm l:=OF _ _
theorem adk(l:List dr):(yM l).length=l.length:=(Wu l).length_eq
theorem Wv{l:List dr}{x:dr}:x∈yM l↔x∈l:=(Wu l).mem_iff
theorem anu (l:List dr):((yM l).map oz).Pairwise λa b=>gj b.1 a.1=false:=by
 rw[ry];refine(YQ ans ant l).imp λ{a b} h=> ?_
 show gj b.dt a.dt=false;unfold BQ at h
 simp_all
theorem adl:∀{c m:List (PId×eP)},c.Perm m->(c.Pairwise λa b=>gj a.1 b.1=true)->(m.Pairwise λa b=>gj b.1 a.1=false)->c=m
 |[],m,d,_,_=>by simp_all
 |v::c,[],d,_,_=>by simp_all
 |v::c,y::m,d,f,g=>by
  obtain⟨i,j⟩:=s9.1 f;obtain⟨k,l⟩:=s9.1 g;have n:v=y:=by
   rcases ft.1 (d.mem_iff.1 (kH (a:=v))) with h|h
   .exact h
   have o:=k v h;rcases ft.1 (d.mem_iff.2 (kH (a:=y))) with e|e
   .simp_all
   have p:=i y e
   simp_all
  subst n;rw[adl (List.perm_cons v|>.1 d) j l]
theorem anv{a:List (PId×eP)}{l:List dr}(b:a.Perm (l.map oz))(c:oB (a.map (·.1))):a=(yM l).map oz:=
 adl (b.trans ((Wu l).symm.map oz)) (ry.1 c) (anu l)
def tJ (a:PId->ByteArray) (l:List dr):ByteArray:=m5 bar ((yM l).map (mb a))
def oF (a:PId->ByteArray) (b:Bool) (s:cK):ByteArray:=if b then tJ a s.aj else(s.key++colon)++tJ a s.aj
def Fv (a:PId->ByteArray) (b:Bool) (M:List cK):ByteArray:=m5 comma ((M.filter nx).map (oF a b))
def zY (a:PId->ByteArray) (b:Bool) (M:List cK):ByteArray:=if b then(⟨#[91]⟩++Fv a b M)++⟨#[93]⟩ else(⟨#[123]⟩++Fv a b M)++⟨#[125]⟩
def fA (R:List bA):Nat->PId->ByteArray
 |0,_=>⟨#[35]⟩
 |r+1,x=>match bM R x with
  |some o=>zY (fA R r) o.aS (me o)
  |none=>⟨#[]⟩
theorem Ww{x:PId}(h:bM e x=some i)(r:Nat):fA e (r+1) x=zY (fA e r) i.aS (me i):=by show(match bM e x with |some i=>_|none=>_)=_;rw[h]
structure zZ (w:World) (d aF be:Nat) (D:cZ) (R:List bA):Prop where
 q:cW w d aF be D.1 D.2
 lp:fO R D
 kj:ha D
 pow:Pow w
 root:∃o,bM R (0,0)=some o
 vj:∀x o,bM R x=some o->∀s∈o.ss,∀h∈s.aj,mv h.kW
 zq:∀x o,bM R x=some o->∀s∈o.ss,∀h∈s.aj,∃o',bM R h.obj=some o'
 Rk:∀p∈D.1,p.2.ks.length<=10000
 iY:∀x o,bM R x=some o->o.ss.length<=10000
 vl:∀x o,bM R x=some o->∀s∈o.ss,s.aj.length<=10000/\s.key.size<=4
 qU:∀r,r<=3->∀x o,bM R x=some o->(Fv (fA R r) o.aS (me o)).size<=1000000000000/\∀s∈o.ss,(tJ (fA R r) s.aj).size<=1000000000000
theorem zZ.ak{w d a b D R}{w':World}(h:zZ w d a b D R)(c:J w w'):zZ w' d a b D R:=⟨h.q.ak c,h.lp,h.kj,h.pow.ak c,h.root,h.vj,h.zq,h.Rk,h.iY,h.vl,h.qU⟩
def Fw (w:World) (d:Nat) (R:List bA) (r:Nat):Prop:=∀W,J w W->∀(x:PId) (o:bA),bM R x=some o->
 O 88 #[Z d,.agg #[A x.1,A x.2],A (5-(r:Int))] W λe a=>e=ad (.string (fA R r x))/\J W a
theorem Fw.ak{w R}{w':World}(h:Fw w a R d)(b:J w w'):Fw w' a R d:=λW c x o e=>h W (bp b c) x o e
def Rl (w:World) (v:Value) (l:List eP):Prop:=w.ownsRow 0 57 3 v l.length (l.flatMap sv)
theorem Rl.cells{w l}{g n cap:Nat}(h:Rl w (aa g n cap) l)(b:n=l.length)(i:Nat)(c:i<l.length):
  w.cell? (K g (i*3))=some (A l[i].1)/\w.cell? (K g (i*3+1))=some (A l[i].2.1)/\w.cell? (K g (i*3+2))=some (A l[i].2.2):=by
 subst b;have a:=λj (d:j<3)=>jl (f:=sv) (k:=3) (λ_=>rfl) h rfl i c j d
 refine⟨a 0 (by omega),a 1 (by omega),?_⟩;exact a 2 (by omega)
theorem anw (i:zZ c d f h b e) (t:a<=3) (ih:Fw c d e a) (x:dr) (n:mv x.kW) (k:∃o,bM e x.obj=some o):
  O 184 #[Z d,.agg #[A x.kW,A x.obj.1,A x.obj.2],A (4-(a:Int))] c λg p=>g=ad (.string (mb (fA e a) x))/\J c p:=by
 obtain⟨o,k⟩:=k;have j:=aV c (.cells #[A x.kW,A x.obj.1,A x.obj.2] 57);have q:=alf x.kW n (i.pow.ak j);have r:=ag (ih _ j x.obj o k);unfold mb;have heq:=xS;cases u:fv x.obj.1 x.obj.2 0 0
 .have v:IntKind.i64.wrap (4-(a:Int)+1)=5-(a:Int):=by rw[mN _ (by omega)];omega
  have w:(4-(a:Int))+1=5-(a:Int):=by omega
  go_enter func184,ntmps184;go_wp2_with fail
  refine r.o.mono ?_;rintro g s ⟨rfl,l⟩;have m:=ag (bp j l);go_wp2;go_ret
  exact⟨by simp,m.o⟩
 go_enter func184,ntmps184;go_wp2_with fail
 refine q.mono ?_;rintro g s ⟨rfl,l⟩;have m:=ag (bp j l);go_wp2;go_ret
 exact⟨by simp,m.o⟩
theorem Wx{b d:World}{o:Obj}{e:Option Nat}(h:Below a b c)(f:(c.alloc o).grownBy d e)(g:a<=c.heap.size)(i:∀k,e=some k->a<=k):Below a b d:=
 (h.alloc g o).grown f (by simp;omega) i
theorem adm (l:zZ c d f h b e) (aP:a<=3) (ih:Fw c d e a) (n p r s:Int) (t:ByteArray) (v:List dr) (S:v.length<=10000) (U:(fN b.1 b.2 (n,p) t (r,s)).aK.Perm (v.map oz)) (cS:((fN b.1 b.2 (n,p) t (r,s)).aK.map (·.1)).Nodup) (F:∀x∈v,mv x.kW) (I:∀x∈v,∃o,bM e x.obj=some o) (X:(tJ (fA e a) v).size<=1000000000000):
  O 167 #[Z d,.agg #[A n,A p,.string t,A r,A s],A (4-(a:Int))] c λj z=>j=ad (.string (tJ (fA e a) v))/\J c z:=by
 have Y:=aV c (.cells #[A n,A p,.string t,A r,A s] 97);have e2:=ag (show O 49 #[Z d,.agg #[A n,A p,.string t,A r,A s]] (c.alloc (.cells #[A n,A p,.string t,A r,A s] 97)) λj z=>∃u,j=ad u/\qQ (c.alloc (.cells #[A n,A p,.string t,A r,A s] 97)).heap.size z u ((yM v).map valOf)/\Below (c.alloc (.cells #[A n,A p,.string t,A r,A s] 97)).heap.size (c.alloc (.cells #[A n,A p,.string t,A r,A s] 97)) z from by refine(Vr (l.q.ak Y) n p r s t (by rw[U.length_eq,c2];exact S) cS).mono ?_;rintro j z ⟨u,iO,h1,h2,ax,a8,cP⟩;rw[anv (h2.trans U) ax,rz]at a8;exact⟨u,h1,a8,cP⟩)
 rw[<-adk]at S;replace F:∀x∈yM v,mv x.kW:=λx w=>F x (Wv.1 w)
 replace I:∀x∈yM v,∃o,bM e x.obj=some o:=λx w=>I x (Wv.1 w)
 unfold tJ at X⊢;generalize yM v=m at *;have M1:=λW (ah:J c W) x (w:x∈m)=>anw (l.ak ah) aP (ih.ak ah) x (F x w) (I x w)
 have WA:=X;go_enter func167,ntmps167;go_wp2_with fail
 refine e2.o.mono ?_;rintro j B ⟨u,rfl,L,aA⟩;have aJ:=bp Y aA;have hz1:=aJ.size;have kw:=show Rl B u (m.map valOf) from ii L (b6 _)
 have HUG:=ag (cX L);obtain⟨lW,lX,rfl,xV,ya,kf⟩:=bz L;unfold maxLen at ya;rw[c2]at xV;go_wp2_with fail
 go_loopw [7,14] (λu i wr=>∃k:Nat,k<=m.length/\i=A k/\rJ B.heap.size wr u ((m.take k).map (mb (fA e a)))/\J B wr) (λ_ i _=>m.length-(intOf i).toNat)
 case atStart=>exact⟨0,b6 _,rfl,hg _ _ _ _,ca _ _⟩
 case round=>
  obtain⟨k,hk,rfl,M,y⟩:=hrel;have tb:=y.size;have eO:=aJ.trans (y.mono hz1);by_cases D:k<m.length
  .obtain⟨g,rfl⟩:=kf k (by simpa using D);obtain⟨E,N,P⟩:=Rl.cells kw (by simp) k (by simpa using D);simp only[pn,valOf]at E N P;replace E:=ak y E;replace N:=ak y N;replace P:=ak y P;have dG:=e7 wr _ E;have dK:(k:Int)<(m.length:Int):=by omega
   have dV:=M;have jA:=y;have b9:=show J wr (wr.alloc (.cells #[A m[k].kW,A m[k].obj.1,A m[k].obj.2] 57)) from aV wr _
   have M3:=M1 _ (bp eO b9) m[k] (dB D);go_wp2_with fail
   refine M3.mono ?_;rintro j Q ⟨rfl,R⟩;have C:=ag (bp b9 R);have hz2:=C.o.size;have mr:=show rJ B.heap.size Q _ ((m.take k).map (mb (fA e a))) from dI dV C.o
   have jQ:((m.take k).map (mb (fA e a))).length=k:=by rw[c2,gU];omega
   go_wp2_with (at_builtin;go_must (refine P2 rfl (.tmp 18) (.tmp 23) rfl B.heap.size _ ((m.take k).map (mb (fA e a))) rfl ?h1 Q.heap.size 1 (mb (fA e a) m[k]) rfl ?h2 ?a8 ?cP ?_;(case h1=>exact Cc mr _);(case h2=>simp);(case a8=>omega);(case cP=>simp;omega);intro v' w3 ij ee;have o3:=ee;have sC:=ij))
   go_roundw
   case rel=>
    have bu:=Wx (bp jA C.o) (o:=.cells #[.string (mb (fA e a) m[k])] 9) o3 (by omega) λg aq=>(cX mr g aq).1
    exact⟨k+1,by omega,by go_num,by rw[IG _ D];exact sC,bu⟩
   case measure=>simp[intOf];omega
  have iC:k=m.length:=by omega
  subst iC;rw[kp (bW _)]at M;have BD:=Vb M bar (by rw[c2];omega) (cd WA (by omega));go_wp2_with fail
  refine BD.mono ?_;rintro j Q ⟨rfl,R⟩;have C:=ag (bp eO R);go_wp2;go_ret
  exact⟨rfl,C.o⟩
theorem adn(h:ha b)(a:PId)(c:ByteArray)(d:PId):((fN b.1 b.2 a c d).aK.map (·.1)).Nodup:=by
 unfold fN;split
 .split
  .split
   .rename_i e f
    exact h.nW _ (gZ f)
   simp
  split
  .rename_i j g
   split
   .rename_i k i
    exact h.gQ _ (gZ g) _ (gZ i)
   simp
  simp
 simp
theorem anx (j:zZ c d f h b e) (B:a<=3) (ih:Fw c d e a) (x:PId) {o:bA} (m:bM e x=some o) (p:o.aS=true):
  O 140 #[Z d,.agg #[A x.1,A x.2],A (4-(a:Int))] c λl C=>l=ad (.string (zY (fA e a) o.aS (me o)))/\J c C:=by
 have R:=ag (aV c (af (x.1) (x.2)));have dg:=ag (bZ c (af (x.1) (x.2)));obtain⟨bg,S,r⟩:=j.lp.br x o m;have U:=j.iY x o m;have D:=ag (show O 57 #[Z d,.agg #[A x.1,A x.2]] (c.alloc (af (x.1) (x.2))) _ from aaU (j.q.ak R.o) x.1 x.2 S (r.aS.trans p) (r.ER p) (by simp_all));rw[ac2 r p,show eJ o=(o.ss.filter nx).map cK.id from rfl]at D;have M1:=ag (show ∀s∈o.ss,∀W,J c W->O 167 #[Z d,.agg #[A x.1,A x.2,.string ⟨#[]⟩,A s.id.1,A s.id.2],A (4-(a:Int))] W λl C=>l=ad (.string (oF (fA e a) o.aS s))/\J W C from λs n W X=>by
  have Y:=(r.sG p s n).1;have hhe:=r.Mk n (q4.2 ⟨Y,rfl⟩);have au:=(j.lp.Jy m p (dF.2 ⟨s,n,rfl⟩)).2;rw[hhe]at au;have :=adm (j.ak X) B (ih.ak X) x.1 x.2 s.id.1 s.id.2 ⟨#[]⟩ s.aj (j.vl x o m s n).1 au (adn j.kj _ _ _) (j.vj x o m s n) (j.zq x o m s n) ((j.qU a B x o m).2 s n);unfold oF
  simp_all)
 have mU:=(j.qU a B x o m).1;have E:Fv (fA e a) o.aS (me o)=m5 comma ((o.ss.filter nx).map (oF (fA e a) o.aS)):=by
  have hS:me o=o.ss:=by unfold me;simp_all
  rw[hS];rfl
 have M4:=ag (show(m5 comma ((o.ss.filter nx).map (oF (fA e a) o.aS))).size<=140737488355328 by rw[<-E];omega);have Dv:=ag E;have oU:(o.ss.filter nx).length<=10000:=cd (r7 _ _) U;have sq:=ag (show ∀s∈o.ss.filter nx,s∈o.ss from λs n=>(p4.1 n).1);have tf:=ag p;clear j ih S r U mU E m p;generalize cE:o.ss.filter nx=L at *;clear cE;go_enter func140,ntmps140;go_wp2_with fail
 refine D.o.mono ?_;rintro l v ⟨u,rfl,F,I⟩;have cg:=ag (bB dg.o I);have aJ:=ag (bp R.o I);clear I;have hz1:=aJ.o.size;have kw:=show fu v u (L.map cK.id) from F.ids
 obtain⟨lW,lX,rfl,xV,ya,kf⟩:=bz F;clear F D;unfold maxLen at ya;rw[c2]at xV;go_wp2_with fail
 go_loopw [7,14] (λu i wr=>∃k:Nat,k<=L.length/\i=A k/\rJ v.heap.size wr u ((L.take k).map (oF (fA e a) o.aS))/\J v wr) (λ_ i _=>L.length-(intOf i).toNat)
 case atStart=>exact⟨0,b6 _,rfl,hg _ _ _ _,ca _ _⟩
 case round=>
  obtain⟨k,Y,rfl,M,t⟩:=hrel;have tb:=t.size;have eO:=aJ.o.trans (t.mono hz1);by_cases w:k<L.length
  .obtain⟨g,rfl⟩:=kf k (by simpa using w);obtain⟨y,N⟩:=fu.cells kw (by simp) k (by simpa using w);simp only[pn]at y N;replace y:=ak t y;replace N:=ak t N;have c7:=bB cg.o t;obtain⟨c4,bK⟩:=bD c7;have gC:=aU c7;have dG:=e7 wr _ y;have dK:(k:Int)<(L.length:Int):=by omega
   have dV:=M;have jA:=t;have b9:=show J wr (wr.alloc (af (L[k].id.1) (L[k].id.2))) from aV wr _
   go_wp2_with fail
   refine(Ra _ _ _ _ _).mono ?_;rintro l w2 ⟨rfl,P⟩;have z:=ag (bp b9 P);have M3:=M1.o L[k] (sq.o _ (dB w)) w2 (bp eO z.o);go_wp2_with fail
   refine M3.mono ?_;rintro l w3 ⟨rfl,bu⟩;have Q:=bp z.o bu;have ox:=Q.size;have li:=show rJ v.heap.size w3 _ ((L.take k).map (oF (fA e a) o.aS)) from dI dV Q
   have jQ:((L.take k).map (oF (fA e a) o.aS)).length=k:=by rw[c2,gU];omega
   go_wp2_with (at_builtin;go_must (refine P2 rfl (.tmp 18) (.tmp 25) rfl v.heap.size _ ((L.take k).map (oF (fA e a) o.aS)) rfl ?h1 w3.heap.size 1 (oF (fA e a) o.aS L[k]) rfl ?h2 ?a8 ?cP ?_;(case h1=>exact Cc li _);(case h2=>simp);(case a8=>omega);(case cP=>simp;omega);intro v' w4 Cm eF;have mE:=eF;have ny:=Cm))
   go_roundw
   case rel=>
    have hY:=Wx (bp jA Q) (o:=.cells #[.string (oF (fA e a) o.aS L[k])] 9) mE (by omega) λg aq=>(cX li g aq).1
    exact⟨k+1,by omega,by go_num,by rw[IG _ w];exact ny,hY⟩
   case measure=>simp[intOf];omega
  have iC:k=L.length:=by omega
  subst iC;rw[kp (bW _)]at M;have BD:=ag (Vb M comma (by rw[c2];omega) M4.o);go_wp2_with fail
  refine BD.o.mono ?_;rintro l w2 ⟨rfl,P⟩;have z:=ag (bp eO P);have hjz:=M4.o;go_wp2;go_ret
  refine⟨Eo ?_,z.o⟩;unfold zY;rw[Dv.o,tf.o,bn rfl]
theorem anz{R:List bA}{x:PId}{g:fr}(w:ha b)(y:bV x b.1=some g)(j:Bm b.2 x i g)(n:i.aS=false):tw (rI g.ks)=((vh i.ss).filter nx).map cK.key:=by
 have t:=w.ks _ (gZ y);have z:∀l c,(l,c)∈g.ks->c.aK.length=(ju i l (0,0)).length:=λl c o=>by
  have :=j.Jx n l;rw[Ha t o]at this;have :=this.length_eq
  simp_all
 have p:=OF i.ss Lu;apply abD
 .rw[atE]
  .intro l;constructor
   .intro q;obtain⟨⟨k,c⟩,o,rfl⟩:=dF.1 q;obtain⟨B,I⟩:=p4.1 o;have m:=z k c B;have e:0<c.aK.length:=by simp_all
    rw[m]at e;obtain⟨h,C⟩:=List.exists_mem_of_length_pos e;obtain⟨s,f,D,E⟩:=ak0 C;refine dF.2 ⟨s,p4.2 ⟨p.mem_iff.2 f,?_⟩,(q4.1 D).1⟩;unfold nx;rw[E];simpa using e
   intro q;obtain⟨s,f,rfl⟩:=dF.1 q;obtain⟨F,u⟩:=p4.1 f;have e:0<s.aj.length:=by unfold nx at u;simpa using u
   have :=j.Jx n s.key;rw[(λs f=>j.Mk f (q4.2 ⟨rfl,((j.keys n) s f).2⟩)) s (p.mem_iff.1 F)]at this;cases r:bV s.key g.ks with
   |none=>rw[r]at this;have :=this.length_eq;rw[c2]at this;simp at this;omega
   |some c=>rw[r]at this;have v:=this.length_eq;rw[c2]at v;refine dF.2 ⟨(s.key,c),p4.2 ⟨gZ r,?_⟩,rfl⟩;have :c.aK.length=s.aj.length:=v;simp only[this];simpa using e
  .exact(List.filter_sublist.map _).nodup t
  exact(List.filter_sublist.map _).nodup (((p.map cK.key).nodup_iff).2 (j.Jw n))
 rw[ry];refine List.Pairwise.filter _ ?_;have m:(vh i.ss).Pairwise λa d=>Lu a d=true:=YQ (λa d c m e=>aan ⟨a.key,a.id,.slice none 0 0,a.aj⟩ ⟨d.key,d.id,.slice none 0 0,d.aj⟩ ⟨c.key,c.id,.slice none 0 0,c.aj⟩ m e) (λa d=>aao ⟨a.key,a.id,.slice none 0 0,a.aj⟩ ⟨d.key,d.id,.slice none 0 0,d.aj⟩) i.ss
 refine m.imp λ{a d} h=>abE _ _ ?_
 unfold Lu jn at h;simpa using h
theorem anA {R:List bA} (j:zZ c d f h b R) (w:a<=3) (ih:Fw c d R a) (x:PId) (n:bM R x=some i) (p:i.aS=false):
  O 141 #[Z d,.agg #[A x.1,A x.2],A (4-(a:Int))] c λe E=>e=ad (.string (zY (fA R a) i.aS (me i)))/\J c E:=by
 have Y:=ag (aV c (af (x.1) (x.2)));have dg:=ag (bZ c (af (x.1) (x.2)));obtain⟨bg,y,z⟩:=j.lp.br x i n;have b3:=j.iY x i n;have F:=ag (show O 169 #[Z d,.agg #[A x.1,A x.2]] (c.alloc (af (x.1) (x.2))) _ from ajU (j.q.ak Y.o) x.1 x.2 y (j.Rk _ (gZ y)) tw (λW v l aO mP=>aln _ W v l aO mP) alm);rw[anz (R:=R) j.kj y z p]at F;have M1:=ag (show ∀s∈i.ss,∀W,J c W->O 167 #[Z d,.agg #[A x.1,A x.2,.string s.key,A 0,A 0],A (4-(a:Int))] W λe E=>e=ad (.string (tJ (fA R a) s.aj))/\J W E from λs o W ah=>by have I:=z.keys p s o;have au:=(j.lp.C5 n p I.1 (0,0)).2;rw[z.Mk o (q4.2 ⟨rfl,I.2⟩)]at au;exact adm (j.ak ah) w (ih.ak ah) x.1 x.2 0 0 s.key s.aj (j.vl x i n s o).1 au (adn j.kj _ _ _) (j.vj x i n s o) (j.zq x i n s o) ((j.qU a w x i n).2 s o))
 have WA:=ag (show ∀s∈i.ss,s.key.size<=4/\(tJ (fA R a) s.aj).size<=1000000000000 from λs o=>⟨(j.vl x i n s o).2,(j.qU a w x i n).2 s o⟩);have mU:=(j.qU a w x i n).1;have Rm:me i=vh i.ss:=by unfold me;simp_all
 have M:Fv (fA R a) i.aS (me i)=m5 comma (((vh i.ss).filter nx).map (oF (fA R a) i.aS)):=by rw[Rm];rfl
 have M4:=show(m5 comma (((vh i.ss).filter nx).map (oF (fA R a) i.aS))).size<=140737488355328 by rw[<-M];omega
 have Dv:=ag M;have oU:((vh i.ss).filter nx).length<=10000:=cd (r7 _ _) (by unfold vh;simp_all);have sq:=ag (show ∀s∈(vh i.ss).filter nx,s∈i.ss from λs o=>(OF i.ss Lu).mem_iff.1 (p4.1 o).1);have tf:=ag p;have lY:∀s,oF (fA R a) i.aS s=(s.key++colon)++tJ (fA R a) s.aj:=λs=>by unfold oF;simp_all
 have HSF:=lY;clear j ih y z b3 mU M n p Rm lY;generalize cE:(vh i.ss).filter nx=L at *;clear cE;go_enter func141,ntmps141;go_wp2_with fail
 refine F.o.mono ?_;rintro e B ⟨u,rfl,N,P⟩;have cg:=ag (bB dg.o P);have aJ:=bp Y.o P;clear P;have hz1:=aJ.size;obtain⟨lW,lX,rfl,xV,ya,kf⟩:=bz N;have kw:=N;clear N F;rw[c2]at xV;go_wp2_with fail
 go_loopw [7,14] (λu m wr=>∃k:Nat,k<=L.length/\m=A k/\rJ B.heap.size wr u ((L.take k).map (oF (fA R a) i.aS))/\J B wr) (λ_ m _=>L.length-(intOf m).toNat)
 case atStart=>exact⟨0,b6 _,rfl,hg _ _ _ _,ca _ _⟩
 case round=>
  obtain⟨k,I,rfl,Q,r⟩:=hrel;have tb:=r.size;have eO:=aJ.trans (r.mono hz1);by_cases t:k<L.length
  .obtain⟨g,rfl⟩:=kf k (by simpa using t);have C:=Va kw k L[k].key (by simp[t]);rw[sY]at C;replace C:=ak r C;have c7:=bB cg.o r;obtain⟨c4,bK⟩:=bD c7;have gC:=aU c7;have dG:=e7 wr _ C;have dK:(k:Int)<(L.length:Int):=by omega
   have dV:=Q;have jA:=r;obtain⟨er,vg⟩:=WA.o L[k] (sq.o _ (dB t));go_wp2_with fail
   refine(adg _ _ _ _).mono ?_;rintro e w2 ⟨rfl,S⟩;have D:=ag S;have M3:=M1.o L[k] (sq.o _ (dB t)) w2 (bp eO D.o);go_wp2_with fail
   refine M3.mono ?_;rintro e U ⟨rfl,bu⟩;have X:=bp D.o bu;have ox:=X.size;have li:=show rJ B.heap.size U _ ((L.take k).map (oF (fA R a) i.aS)) from dI dV X
   have jQ:((L.take k).map (oF (fA R a) i.aS)).length=k:=by rw[c2,gU];omega
   go_wp2_with (at_builtin;go_must (refine P2 rfl (.tmp 18) (.tmp 28) rfl B.heap.size _ ((L.take k).map (oF (fA R a) i.aS)) rfl ?h1 U.heap.size 1 ((L[k].key++colon)++tJ (fA R a) L[k].aj) rfl (acT (bZ U _)) (by omega) (by simp;omega) ?_;(case h1=>exact Cc li _);intro v' w4 Cm eF;have mE:=eF;have ny:=Cm))
   go_roundw
   case rel=>
    have hY:=Wx (bp jA X) mE (by omega) λg aq=>(cX li g aq).1
    exact⟨k+1,by omega,by go_num,by rw[IG _ t,HSF L[k]];exact ny,hY⟩
   case measure=>simp[intOf];omega
  have iC:k=L.length:=by omega
  subst iC;rw[kp (bW _)]at Q;have BD:=ag (Vb Q comma (by rw[c2];omega) M4);go_wp2_with fail
  refine BD.o.mono ?_;rintro e w2 ⟨rfl,S⟩;have D:=ag (bp eO S);have hjz:=M4;go_wp2;go_ret
  refine⟨Eo ?_,D.o⟩;unfold zY;rw[Dv.o,tf.o,a7 (by decide)]
end
section
open Go.RowKit Tryz
attribute [local go_sem ↓] Go.wp_at_zero Go.wp_at_succ
variable {a b c:Nat}
theorem anB{D:cZ}{R:List bA}:∀(r:Nat),r<=4->∀w,zZ w a b c D R->Fw w a R r:=by
 intro r
 induction r with
 |zero=>
  intro _ w h W z x o i;have j:=ag (aV W (af (x.1) (x.2)));have p:(5:Int)-((0:Nat):Int)=5:=by omega
  rw[p];go_enter func88,ntmps88;go_wp2;go_ret
  exact⟨rfl,j.o⟩
 |succ r ih=>
  intro N w h W z x o i;have j:=ag (aV W (af (x.1) (x.2)));have B:=bZ W (af (x.1) (x.2));have p:(5:Int)-((r+1:Nat):Int)=4-(r:Int):=by omega
  rw[p];have f:=h.ak z;have n:=ag (show O 90 #[Z a,.agg #[A x.1,A x.2]] (W.alloc (af (x.1) (x.2))) λe F=>e=ad (.bool o.aS)/\Below (W.alloc (af (x.1) (x.2))).heap.size (W.alloc (af (x.1) (x.2))) F from by rw[<-f.lp.a6 i];exact CG (f.q.ak j.o) x.1 x.2)
  have C:=ag (λd (k:J W d) (g:o.aS=true)=>anx (f.ak k) (by omega) (ih (by omega) d (f.ak k)) x i g);have E:=ag (λd (k:J W d) (g:o.aS=false)=>anA (f.ak k) (by omega) (ih (by omega) d (f.ak k)) x i g);rw[Ww i r];cases g:o.aS
  .rw[g]at n E;go_enter func88,ntmps88;go_wp2_with fail
   refine n.o.mono ?_;rintro e s ⟨rfl,l⟩;have t:=ag (bB B l);have m:=ag (bp j.o l);obtain⟨I,L⟩:=bD t.o;have u:=ag (E.o s m.o (by trivial));go_wp2_with fail
   refine u.o.mono ?_;rintro e M ⟨rfl,v⟩;have y:=ag (bp m.o v);go_wp2;go_ret
   exact⟨rfl,y.o⟩
  rw[g]at n C;go_enter func88,ntmps88;go_wp2_with fail
  refine n.o.mono ?_;rintro e s ⟨rfl,l⟩;have t:=ag (bB B l);have m:=ag (bp j.o l);obtain⟨I,L⟩:=bD t.o;have u:=ag (C.o s m.o (by trivial));go_wp2_with fail
  refine u.o.mono ?_;rintro e M ⟨rfl,v⟩;have y:=ag (bp m.o v);go_wp2;go_ret
  exact⟨rfl,y.o⟩
theorem anC {w:World} {D:cZ} {R:List bA} (h:zZ w a b c D R):
  O 55 #[Z a] w λe d=>e=ad (.string (fA R 4 (0,0)))/\J w d:=by
 obtain⟨o,f⟩:=h.root;go_enter func55,ntmps55;go_wp2_with fail
 refine(show O 88 #[Z a,.agg #[A 0,A 0],A 1] w _ from anB 4 (by omega) w h w (ca _ _) (0,0) o f).mono ?_;rintro e i ⟨rfl,g⟩;go_wp2;go_ret
 exact⟨rfl,g⟩
theorem anD {w:World} {F I:Nat->Prop} {i:Nat} {M:Nat->List ay} {s:bx} {x:da} (h:ei w b F I c i M s x) (f:a<c) (j:zZ w (x.q a).d (x.q a).aF (x.q a).be (x.q a).D (c1 (s.ar a))):
  O 28 #[Z b,A a] w λe k=>e=ad (.tuple #[.string (fA (c1 (s.ar a)) 4 (0,0)),A 0])/\J w k:=by
 have l:=λW (n:J w W)=>anC (j.ak n)
 go_enter func28,ntmps28;go_wp2_with fail
 refine(MQ h.m a f).mono ?_;rintro e r ⟨rfl,rfl⟩;go_wp2_with fail
 refine(Bx (h.m.fi a f)).mono ?_;rintro e o ⟨rfl,g⟩;go_wp2_with fail
 refine(l o g).mono ?_;rintro e t ⟨rfl,p⟩;go_wp2;go_ret2
 exact⟨rfl,bp g p⟩
end
section
open Go.RowKit Tryz
variable {a c d r:Nat}{b:bA}{e:List bA}{f:Nat->List ay}{h q:Nat->Prop}{i:PId}{j:World}{k:bT}{l:bx}{m:cK}{n:da}
def dq:List cK->Nat
 |[]=>0
 |s::l=>s.aj.length+dq l
theorem Ro:∀(l m:List cK),dq (l++m)=dq l+dq m
 |[],m=>by simp[dq]
 |s::l,m=>by show s.aj.length+dq (l++m)=s.aj.length+dq l+dq m;rw[Ro l m];omega
theorem anE{l m:List cK}(h:l.Perm m):dq l=dq m:=by
 induction h with
 |nil=>rfl
 |cons x _ ih=>unfold dq;rw[ih]
 |swap x y l=>unfold dq;unfold dq;omega
 |trans _ _ a b=>exact a.trans b
theorem ado(l:List cK)(k:Nat)(a:ByteArray)(x:PId):dq (te l k (qK a x))=dq l:=by unfold te;have h:=Ro (l.take k) (l.drop k);rw[za]at h;rw[Ro,h];show _+(0+dq (l.drop k))=_;omega
theorem adp(l:List cK)(k:Nat)(s:cK):(te l k s).length=l.length+1:=by unfold te;rw[dh,iq];have :=kq List.length (za k l);rw[dh]at this;omega
theorem adq{f:cK->cK}(a:∀s,(f s).aj.length<=s.aj.length+1):∀(l:List cK) (k:Nat),dq (l.modify k f)<=dq l+1
 |[],k=>by simp
 |s::l,0=>by rw[Y0];have :=a s;unfold dq;omega
 |s::l,k+1=>by rw[Y1];have :=adq a l k;unfold dq;omega
theorem WB{s:cK}:∀{l:List cK},s∈l->s.aj.length<=dq l
 |y::l,h=>by
  unfold dq;rcases ft.1 h with rfl|h
  .omega
  have :=WB h;omega
theorem adr(b:List PId)(a:List dr)(c:Int)(y:dr):(lA b a c y).length<=a.length+1:=by
 unfold lA;rw[dh];have d:(unnamed b a).length<=a.length:=r7 _ _;have e:(if c=3 then[y] else[]).length<=1:=by split <;>simp
 omega
theorem anF(p:bT)(o:bA):dq (hJ p o).ss<=dq o.ss+1/\(hJ p o).ss.length<=o.ss.length+1:=by
 unfold hJ;split
 .split
  .show dq (sm _ _ _)<=_/\(sm _ _ _).length<=_;unfold sm;split
   .rw[ado,adp];omega
   split
   .omega
   rw[ado,adp];omega
  simp
 split
 .show dq (mS _ _ _ _ _ _ _)<=_/\(mS _ _ _ _ _ _ _).length<=_;unfold mS;split
  .split
   .omega
   have :=adr p.old [] p.aM p.held;rw[Ro,dh];show dq o.ss+((lA p.old [] p.aM p.held).length+0)<=_/\_+1<=_
   simp_all
  rw[List.length_modify];exact⟨adq (λs=>adr _ _ _ _) _ _,by omega⟩
 simp
theorem Rp(a:bM (cC e k) i=some b):bM e i=some b\/b.ss=[]\/(k.aM≠1/\∃c,bM e i=some c/\b=hJ k c):=by
 by_cases f:k.aM=1
 .rw[Bl f]at a;cases d:bM e i with
  |some c=>rw[d]at a;exact .inl a
  |none=>
   rw[d]at a;simp only at a;split at a
   .cases a;simp
   cases a
 rw[EQ f]at a;split at a
 .cases d:bM e i with
  |none=>rw[d]at a;cases a
  |some c=>rw[d]at a;exact .inr (.inr ⟨f,c,rfl,by simp_all⟩)
 simp_all
theorem anG(h:m∈(hJ k b).ss):(∃s0∈b.ss,s0.key=m.key)\/m.key=k.key\/m.key=⟨#[]⟩:=by
 unfold hJ at h;split at h
 .split at h
  .rcases MP h with h|rfl
   .exact .inl ⟨m,h,rfl⟩
   exact .inr (.inr rfl)
  exact .inl ⟨m,h,rfl⟩
 split at h
 .unfold mS at h;split at h
  .split at h
   .exact .inl ⟨m,h,rfl⟩
   rcases dZ.1 h with h|h
   .exact .inl ⟨m,h,rfl⟩
   simp_all
  rcases J0 h with h|⟨s0,a,rfl⟩
  .exact .inl ⟨m,h,rfl⟩
  exact .inl ⟨s0,a,rfl⟩
 exact .inl ⟨m,h,rfl⟩
theorem ads{d:List PId}{b:List dr}{c:Int}{y h:dr}(a:h∈lA d b c y):h∈b\/(c=3/\h=y):=by
 rcases dZ.1 a with a|a
 .exact .inl (p4.1 a).1
 simp_all
theorem adt(h:m∈(hJ k b).ss){y:dr}(a:y∈m.aj):(∃s0∈b.ss,y∈s0.aj)\/(k.aM=3/\y=k.held):=by
 unfold hJ at h;split at h
 .split at h
  .rcases MP h with h|rfl
   .exact .inl ⟨m,h,a⟩
   cases a
  exact .inl ⟨m,h,a⟩
 split at h
 .unfold mS at h;split at h
  .split at h
   .exact .inl ⟨m,h,a⟩
   rcases dZ.1 h with h|h
   .exact .inl ⟨m,h,a⟩
   obtain rfl:=fR.1 h;rcases ads a with c|c
   .cases c
   simp_all
  rcases J0 h with h|⟨s0,d,rfl⟩
  .exact .inl ⟨m,h,a⟩
  rcases ads a with c|c
  .exact .inl ⟨s0,d,c⟩
  simp_all
 exact .inl ⟨m,h,a⟩
structure rk (R:List bA) (n:Nat):Prop where
 vj:∀x o,bM R x=some o->∀s∈o.ss,∀h∈s.aj,mv h.kW
 zq:∀x o,bM R x=some o->∀s∈o.ss,∀h∈s.aj,∃o',bM R h.obj=some o'
 M5:∀x o,bM R x=some o->∀s∈o.ss,s.key.size<=4
 iY:∀x o,bM R x=some o->dq o.ss<=n/\o.ss.length<=n
theorem rk.mx{R}(h:rk R a){p:bT}(k:p.aM=3->mv p.kW/\∃o,bM R p.obj=some o)(l:p.key.size<=4):rk (cC R p) (a+1):=by
 refine⟨λx o b s d y c=> ?_,λx o b s d y c=> ?_,λx o b s d=> ?_,λx o b=> ?_⟩
 .rcases Rp b with b|b|⟨_,f,g,rfl⟩
  .exact h.vj x o b s d y c
  .simp_all
  rcases adt d c with⟨s0,i,c⟩|⟨j,rfl⟩
  .exact h.vj x f g s0 i y c
  exact(k j).1
 .apply J1;rcases Rp b with b|b|⟨_,f,g,rfl⟩
  .exact h.zq x o b s d y c
  .simp_all
  rcases adt d c with⟨s0,i,c⟩|⟨j,rfl⟩
  .exact h.zq x f g s0 i y c
  exact(k j).2
 .rcases Rp b with b|b|⟨_,f,g,rfl⟩
  .exact h.M5 x o b s d
  .simp_all
  rcases anG d with⟨s0,i,e⟩|e|e
  .rw[<-e];exact h.M5 x f g s0 i
  .simp_all
  rw[e];exact b6 _
 rcases Rp b with b|b|⟨_,f,g,rfl⟩
 .have :=h.iY x o b;omega
 .rw[b];exact⟨b6 _,b6 _⟩
 have m:=h.iY x f g;have n:=anF p f;omega
theorem rk.root:rk dD 0:=by
 have b:∀x o,bM dD x=some o->o.ss=[]:=λx o h=>by
  unfold bM dD at h;simp only[Ix,Y3]at h;split at h
  .cases h;rfl
  cases h
 refine⟨λx o h s a=> ?_,λx o h s a=> ?_,λx o h s a=> ?_,λx o h=> ?_⟩
 .rw[b x o h]at a;cases a
 .rw[b x o h]at a;cases a
 .rw[b x o h]at a;cases a
 rw[b x o h];exact⟨bW _,bW _⟩
def vR (p:bT):Prop:=mv p.kW/\p.key.size<=4
theorem rk.all:∀(S:List bT) (R:List bA) (I M:List PId) (n:Nat),rk R n->(∀x∈M,∃o,bM R x=some o)->HK I M S->(∀p∈S,vR p)->rk (S.foldl cC R) (n+S.length)
 |[],_,_,_,_,h,_,_,_=>h
 |p::S,R,I,M,n,h,b,f,d=>by
  obtain⟨k,l,m,r,g,i⟩:=f;have e:=d p kH;rw[Iz,iq,show n+(S.length+1)=(n+1)+S.length by omega];refine rk.all S (cC R p) _ _ (n+1) (h.mx (p:=p) (λc=>⟨e.1,b _ (g c)⟩) e.2) (λx a=> ?_) i λq j=>d q (jk _ j)
  split at a
  .rename_i c
   rcases ft.1 a with rfl|a
   .exact acC c
   exact J1 p (b x a)
  exact J1 p (b x a)
theorem adu (c:ByteArray) (b:ByteArray->Nat):∀(l:List ByteArray),(m5 c l).size<=(l.map λy=>y.size+c.size).sum:=by
 intro l;cases l with
 |nil=>exact b6 _
 |cons x l=>
  have :∀(l:List ByteArray) (a:ByteArray),(l.foldl (λs y=>(s++c)++y) a).size=a.size+(l.map λy=>y.size+c.size).sum:=by
   intro l
   induction l with
   |nil=>intro a;simp
   |cons y l ih=>intro a;rw[Iz,ih,mc,mc,ip,K9];omega
  show(l.foldl (λs y=>(s++c)++y) x).size<=_;rw[this,ip,K9];omega
theorem adv {α:Type} (f:α->Nat) (B:Nat):∀(l:List α),(∀x∈l,f x<=B)->(l.map f).sum<=l.length*B
 |[],_=>by simp
 |x::l,h=>by
  rw[ip,K9,iq,Oy];have b:=h x kH;have c:=adv f B l λy a=>h y (jk _ a)
  omega
theorem anH(a:PId->ByteArray)(B:Nat)(b:∀x,(a x).size<=B)(l:List dr)(c:∀h∈l,mv h.kW):(tJ a l).size<=l.length*(B+22):=by
 refine cd (adu bar (λ_=>0) _) ?_;rw[rz];have :=adv ((λy:ByteArray=>y.size+bar.size)∘mb a) (B+22) (yM l) λh d=>by
  show(mb a h).size+1<=_;unfold mb;split
  .have :=ak1 h.kW (c h (Wv.1 d));omega
  have :=b h.obj;omega
 rw[adk]at this;omega
theorem adw (a:PId->ByteArray) (b:Bool) (B:Nat):∀(M:List cK),(∀s∈M,s.key.size<=4/\(tJ a s.aj).size<=s.aj.length*(B+22))->(((M.filter nx).map (oF a b)).map λy=>y.size+1).sum<=M.length*6+dq M*(B+22)
 |[],_=>by simp
 |s::M,h=>by
  have ih:=adw a b B M λy c=>h y (jk _ c)
  obtain⟨e,f⟩:=h s kH;have g:(oF a b s).size<=5+s.aj.length*(B+22):=by
   unfold oF;have i:colon.size=1:=rfl;split
   .omega
   rw[mc,mc];omega
  have d:dq (s::M)*(B+22)=s.aj.length*(B+22)+dq M*(B+22):=by show(s.aj.length+dq M)*(B+22)=_;rw[uW]
  rw[d,iq,F6];split
  .rw[ip,ip,K9];omega
  omega
theorem anI(a:PId->ByteArray)(b:Bool)(B:Nat)(M:List cK)(h:∀s∈M,s.key.size<=4/\(tJ a s.aj).size<=s.aj.length*(B+22)):(Fv a b M).size<=M.length*6+dq M*(B+22):=by exact cd (adu comma (λ_=>0) _) (adw a b B M h)
def nC:Nat->Nat
 |0=>1
 |r+1=>2+240*(28+nC r)
theorem anJ(b:a<=3):240*(28+nC a)<=100000000000:=by
 have c:nC 0=1:=rfl;have d:nC 1=2+240*(28+nC 0):=rfl;have e:nC 2=2+240*(28+nC 1):=rfl;have f:nC 3=2+240*(28+nC 2):=rfl;have :a=0\/a=1\/a=2\/a=3:=by omega
 rcases this with rfl|rfl|rfl|rfl<;>omega
theorem rk.adx(h:rk e d)(f:∀i,(fA e c i).size<=a)(g:bM e i=some b)(j:m∈b.ss):(tJ (fA e c) m.aj).size<=m.aj.length*(a+22):=anH _ a f _ (h.vj i b g m j)
theorem rk.ady(h:rk e d)(m:d<=240)(k:∀i,(fA e c i).size<=a)(g:bM e i=some b):(Fv (fA e c) b.aS (me b)).size<=240*(28+a):=by
 have f:(me b).Perm b.ss:=by
  unfold me vh;split
  .rfl
  exact OF _ _
 have l:=anI (fA e c) b.aS a (me b) λs j=>⟨h.M5 i b g s (f.mem_iff.1 j),h.adx k g (f.mem_iff.1 j)⟩
 rw[f.length_eq,anE f]at l;obtain⟨n,o⟩:=h.iY i b g;have p:dq b.ss*(a+22)<=240*(a+22):=wn _ (by omega);omega
theorem rk.adz(h:rk e a)(c:a<=240)(r:Nat):∀x:PId,(fA e r x).size<=nC r:=by
 induction r with
 |zero=>exact λx=>bW 1
 |succ r ih=>
  intro x;cases b:bM e x with
  |none=>show(match bM e x with |some o=>zY (fA e r) o.aS (me o)|none=>⟨#[]⟩).size<=_;rw[b];exact b6 _
  |some o=>rw[Ww b];have :=h.ady c ih b;show _<=2+240*(28+nC r);unfold zY;have d:(⟨#[91]⟩:ByteArray).size=1:=rfl;have f:(⟨#[93]⟩:ByteArray).size=1:=rfl;have g:(⟨#[123]⟩:ByteArray).size=1:=rfl;have i:(⟨#[125]⟩:ByteArray).size=1:=rfl;split <;>simp only[mc]<;>omega
theorem adA {κ ν:Type} [DecidableEq κ] (x:κ) (v:ν):∀m:List (κ×ν),(dj x v m).length<=m.length+1
 |[]=>by simp[dj]
 |p::m=>by
  unfold dj;split
  .simp
  have :=adA x v m;simp;omega
theorem anK{m o}{D:cZ}(h:∀p∈D.1,p.2.ks.length<=a)(e:pD D o m):∀p∈m.1,p.2.ks.length<=a+1:=by
 have d:=λp c=>Nat.le_succ_of_le (h p c)
 have q:∀{f x:PId} {i:ByteArray} {v:Option Nat} {j:List (PId×eP)},EF D f i x v j m->∀p∈m.1,p.2.ks.length<=a+1:=by
  intro f x i v j k p c;rcases k with⟨_,y,z,rfl⟩|⟨_,B,g,r,n,s,rfl⟩
  .exact d p c
  rcases qk c with c|rfl
  .exact d p c
  have C:=adA i (⟨v,j⟩:tk) r;have t:=h _ (gZ n);have E:=s.length_eq;show(dj i (⟨v,j⟩:tk) r).length<=a+1;simp only at t;omega
 obtain⟨id,F,u⟩:=o;rcases u with l|⟨x,b⟩|⟨f,i,x,I,w⟩|⟨f,i,x,w⟩
 .subst e;intro p c;rcases qk c with c|rfl
  .exact d p c
  simp
 .subst e;unfold nX;split
  .exact d
  rename_i f n
  split
  .exact d
  split
  .intro p c;rcases qk c with c|rfl
   .exact d p c
   exact(show f.ks.length<=a+1 from d (x,f) (gZ n))
  split
  .exact d
  split
  .exact d
  exact d
 .simp only[pD,EH]at e;split at e
  .obtain⟨v,j,c,k⟩:=e;exact q k
  subst e;exact d
 simp only[pD,EG]at e;split at e
 .obtain⟨v,j,c,k⟩:=e;exact q k
 subst e;exact d
theorem adB:∀(l:List pC) {D a:cZ} {n:Nat},(∀p∈D.1,p.2.ks.length<=n)->l1 D l a->∀p∈a.1,p.2.ks.length<=n+l.length
 |[],D,a,n,h,b=>by have e:=b;subst e;exact h
 |o::l,D,a,n,h,b=>by obtain⟨g,c,d⟩:=b;have :=adB l (anK h c) d;intro p f;have :=this p f;rw[iq];omega
def M6 (N:Nat) (M:Nat->List ay):Prop:=∀c,c<N->∀o∈M c,vR (fZ o.op)
theorem adC:∀(S:List bT) (R:List bA),(∃o,bM R (0,0)=some o)->∃o,bM (S.foldl cC R) (0,0)=some o
 |[],_,h=>h
 |p::S,R,h=>adC S (cC R p) (J1 p h)
theorem ei.tK(b:ei j d h q c r f l n)(i:M6 c f)(g:a<c):rk (c1 (l.ar a)) (l.ar a).length:=by
 have :=rk.all ((l.ar a).map λo=>fZ o.op) dD [] [(0,0)] 0 rk.root (λn k=>by
  obtain rfl:=fR.1 k;exact⟨⟨(0,0),false,[]⟩,rfl⟩) (ac0 b.ok.bJ b.md (b.ok.copy a g) (b.ok.j1 a g)) λp m=>by obtain⟨o,s,rfl⟩:=dF.1 m;obtain⟨e,t,u⟩:=(b.ok.copy a g).bJ s;exact i e t o u
 rw[c2,sY]at this;exact this
theorem ei.txt{I F M x}(e:ei j c h I r F M l x)(u:Pow j)(L:M6 r M)(s:a<r):zZ j (x.q a).d (x.q a).aF (x.q a).be (x.q a).D (c1 (l.ar a)):=by obtain⟨N,P,W⟩:=e.doc s;have i:=e.tK L s;have w:=e.len s;have z:=(e.m.fi a s).kB.did;rw[<-c2 (f:=λo:ay=>o.op),wv]at z;obtain⟨_,_,Q,R⟩:=e.m.lp a s;have B:l1 (x.q a).D0.1 ((x.q a).D0.2++(l.kept a).map (·.op)) (x.q a).D:=z;rw[R,<-ga,<-e.m.k9 a s]at B;have C:=adB _ (n:=0) (λp u=>by rw[Q p u];simp) B;rw[c2]at C;refine⟨(e.m.fi a s).kB.q,N,P,u,adC _ _ ⟨⟨(0,0),false,[]⟩,rfl⟩,i.vj,i.zq,λp S=>by have :=C p S;omega,λy o k=>by have :=(i.iY y o k).2;omega,λy o k v t=>⟨by have g:=(i.iY y o k).1;have b:=WB t;omega,i.M5 y o k v t⟩,λc U y o k=> ?_⟩;have E:=i.adz w c;have X:=anJ U;refine⟨cd (i.ady w E k) (by omega),λv t=>cd (i.adx E k t) ?_⟩;have g:=(i.iY y o k).1;have b:=WB t;have :v.aj.length*(nC c+22)<=240*(nC c+22):=wn _ (by omega);omega
theorem anL (b:ei j d h q a r f l n) (i:Pow j) (k:M6 a f) (g:c<a):O 28 #[Z d,A c] j λe m=>e=ad (.tuple #[.string (fA (c1 (l.ar c)) 4 (0,0)),A 0])/\J j m:=anD b g (b.txt i k g)
end
section
variable {a:List PId}{b:PId}{c:bA}
def rl (R:List bA) (pre:List PId):Prop:=∀o∈R,∀s∈o.ss,(s.aj.Pairwise λa b=>gj a.dt b.dt=true)/\∀h∈s.aj,h.dt∈pre
theorem adD {d:List dr} {pre:List PId} {i:Int} {y:dr} (h:(d.Pairwise λc b=>gj c.dt b.dt=true)/\∀h∈d,h.dt∈pre) (j:∀q∈pre,gj q y.dt=true):((lA a d i y).Pairwise λc b=>gj c.dt b.dt=true)/\∀h∈lA a d i y,h.dt∈pre++[y.dt]:=by
 have f:(unnamed a d).Sublist d:=by unfold unnamed;simp
 refine⟨xQ.2 ⟨h.1.sublist f,by split <;>simp,λc k b g=> ?_⟩,λx e=> ?_⟩
 .split at g
  .obtain rfl:=fR.1 g;exact j _ (h.2 c (f.subset k))
  cases g
 rcases dZ.1 e with e|e
 .exact p3 _ (h.2 x (f.subset e))
 simp_all
theorem anM{l:List cK}{c:Bool}{e:ByteArray}{d:Int}{y:dr}{s:cK}(h:s∈mS l c e b a d y):s∈l\/s.aj=lA a [] d y\/∃s0∈l,s.aj=lA a s0.aj d y:=by
 unfold mS at h;split at h
 .split at h
  .simp_all
  rcases dZ.1 h with h|h
  .simp_all
  simp_all
 rcases J0 h with h|⟨f,g,rfl⟩
 .simp_all
 exact .inr (.inr ⟨f,g,rfl⟩)
theorem rl.mx{R pre}(h:rl R pre)(p:bT)(i:∀q∈pre,gj q p.id=true):rl (cC R p) (pre++[p.id]):=by
 have mono:∀{s:cK},((s.aj.Pairwise λa b=>gj a.dt b.dt=true)/\∀h∈s.aj,h.dt∈pre)->((s.aj.Pairwise λa b=>gj a.dt b.dt=true)/\∀h∈s.aj,h.dt∈pre++[p.id]):=by simp_all
 intro o d s c;unfold cC at d;split at d
 .rcases dZ.1 d with d|d
  .exact mono (h o d s c)
  simp_all
 split at d
 .exact mono (h o d s c)
 rcases J0 d with d|⟨y,j,rfl⟩
 .exact mono (h o d s c)
 have f:=h y j;unfold hJ at c;split at c
 .split at c
  .rcases MP c with c|rfl
   .exact mono (f s c)
   exact⟨List.Pairwise.nil,λx g=>by cases g⟩
  exact mono (f s c)
 split at c
 .rcases anM c with c|e|⟨s0,k,e⟩
  .exact mono (f s c)
  .rw[e];exact adD (y:=p.held) ⟨List.Pairwise.nil,λx g=>(by cases g)⟩ i
  rw[e];exact adD (y:=p.held) (f s0 k) i
 exact mono (f s c)
theorem rl.all:∀(S:List bT) {R:List bA} {pre:List PId},rl R pre->(∀q∈pre,∀p∈S,gj q p.id=true)->(S.Pairwise λa b=>gj a.id b.id=true)->rl (S.foldl cC R) (pre++S.map (·.id))
 |[],R,pre,h,_,_=>by simp_all
 |p::S,R,pre,h,d,e=>by
  obtain⟨g,f⟩:=s9.1 e;have :=rl.all S (h.mx p λq c=>d q c p kH) (λq c r i=>by
   rcases dZ.1 c with c|c
   .simp_all
   simp_all) f
  simp_all
theorem rl.of {c:List ay} (d:q6 c):rl (c1 c) (c.map λo=>o.op.id):=by
 have :=rl.all (c.map λo=>fZ o.op) (R:=dD) (pre:=[]) (λo f s g=>by obtain rfl:=fR.1 f;cases g) (λq i=>by cases i) (ry.2 (d.imp λ{a b} h=>by rw[rf,rf];exact h))
 rw[sZ,rz]at this;have e:(λx=>x.id)∘(λo:ay=>fZ o.op)=λo=>o.op.id:=by funext o;exact rf o.op
 rw[e]at this;exact this
theorem rl.Fx{R}(h:rl R a)(e:bM R b=some c)(d:ByteArray)(y:PId):oB ((ju c d y).map (·.dt)):=by
 unfold ju;cases f:c.ss.find? (gA d y) with
 |none=>exact List.Pairwise.nil
 |some s=>exact ry.2 (h c (D9 e) s (D9 f)).1
theorem anN {l:List dr} (h:l.Pairwise λa b=>gj a.dt b.dt=true):yM l=l:=by
 refine List.mergeSort_of_pairwise (h.imp λ{a b} h=> ?_);unfold BQ;cases e:gj b.dt a.dt
 .rfl
 have :=EX h e;rw[yq]at this;cases this
theorem anO{R:List bA}(a:bM R b=some c):∀r:Nat,0<(fA R r b).size
 |0=>by show 0<(1:Nat);omega
 |r+1=>by
  rw[Ww a];unfold zY;split
  .rw[mc,mc];show 0<1+_+1;omega
  rw[mc,mc];show 0<1+_+1;omega
theorem adE(a:PId->ByteArray)(l:List dr):nj a l=m5 bar (l.map (mb a)):=by
 cases l with
 |nil=>rfl
 |cons h l=>show l.foldl (λs x=>(s++bar)++mb a x) (mb a h)=(l.map (mb a)).foldl (λs y=>(s++bar)++y) (mb a h);rw[List.foldl_map]
theorem adF{s:cK}(h:s∈me c):s∈c.ss:=by
 unfold me at h;split at h
 .exact h
 unfold vh at h
 simp_all
theorem rl.text{R f n}(h:rl R f)(b:rk R n):∀(r:Nat) (x:PId),vi R r x=fA R r x
 |0,_=>rfl
 |r+1,x=>by
  unfold vi fA;show(match bM R x with |some o=>Ct (vi R r) o.aS (me o)|none=>⟨#[]⟩)=_;cases c:bM R x with
  |none=>rfl
  |some o=>
   show Ct (vi R r) o.aS (me o)=zY (fA R r) o.aS (me o);rw[funext λy=>rl.text h b r y];have p:∀s∈o.ss,tJ (fA R r) s.aj=nj (fA R r) s.aj:=λs a=>by unfold tJ;rw[anN (h o (D9 c) s a).1,adE]
   have g:oq (fA R r) o.aS (me o)=Fv (fA R r) o.aS (me o):=by
    rw[ak7]
    .congr 1;refine F8 λs a=> ?_
     have d:=adF (p4.1 a).1;unfold Bp oF
     simp_all
    intro s a i;have d:=adF a;have j:0<(nj (fA R r) s.aj).size:=by
     rw[adE];refine abv bar ?_ λy k=> ?_
     .unfold nx at i;intro e
      simp_all
     obtain⟨q,l,rfl⟩:=dF.1 k;unfold mb;split
     .exact ak3 _
     obtain⟨t,m⟩:=b.zq x o c s d q l;exact anO m r
    unfold Bp;split
    .exact j
    rw[mc];omega
   unfold Ct zY;rw[g]
end
section
open Go.RowKit Tryz
attribute [local go_sem ↓] Go.wp_at_zero Go.wp_at_succ
theorem Stepped.trans{r N sp F I c d e f W g i a p j q l s m}{h:World}(t:Stepped r N sp F I W g a p q c d s)(n:J g h)(u:Stepped r N sp c d h i a j l e f m):Stepped r N sp F I W i a j l e f m:=by
 obtain⟨D,E,o,v,L⟩:=t;obtain⟨w,x,y,z,B⟩:=u;refine⟨w,x,(o.after n).trans y,λk b=>z k (v k b),λk b=> ?_⟩;rcases B k b with C|C
 .simp_all
 exact .inr (by have :=o.size;have :=n.size;omega)
theorem WC{W:World}{a b c:Nat}{d e f g h i:Value}{m n o:TypeId}(j:W.heap[a]?=some (.cells #[d,e] m))(k:W.heap[b]?=some (.cells #[f,g] n))(l:W.heap[c]?=some (.cells #[h,i] o)):W.cell? (H a)=some d/\W.cell? (K a 1)=some e/\W.cell? (H b)=some f/\W.cell? (K b 1)=some g/\W.cell? (H c)=some h/\W.cell? (K c 1)=some i:=⟨(bD j).1,(bD j).2,(bD k).1,(bD k).2,(bD l).1,(bD l).2⟩
def anP (r N f:Nat) (F I:Nat->Prop) (M:Nat->List ay) (s:bx) (x:da) (c:Nat) (a d i:Int) (g:Bool) (w:World) (e:Ending) (w':World):Prop:=
 (∃m,(jU (c1 (s.ar c)) (a,d)=.error m\/(m=7/\∃o,bM (c1 (s.ar c)) (a,d)=some o/\o.aS=true/\lC (eJ o) i=none)\/(m=8/\(∃o b,bM (c1 (s.ar c)) (a,d)=some o/\o.aS=true/\lC (eJ o) i=some b)/\¬s.ai c c+3<=60))/\e=ad (.tuple #[.agg #[A 0,A 0],A m])/\ri r N f F I w w' x.eR M s)\/
 (∃o b t v,bM (c1 (s.ar c)) (a,d)=some o/\o.aS=true/\lC (eJ o) i=some b/\s.ai c c+3<=60/\e=ad (.tuple #[.agg #[A (s.gt c+1),A c],A 0])/\
  Wq r N f F I w w' x.eR (pj M s c (.inl g) t v) (gq s c (.inl g) t v) c (.inr (.inl ((a,d),b))) (a,d) ⟨#[]⟩ (s.gt c+2,(c:Int)) (0,(s.gt c+1,(c:Int))))
theorem anQ {w:World} {r:Nat} {F I:Nat->Prop} {N sp:Nat} {M:Nat->List ay} {s:bx} {x:da} (h:ei w r F I N sp M s x) {c:Nat} (l:c<N) (d f i:Int) (j:Bool):
  O 99 #[Z r,A c,.agg #[A d,A f],A i,.bool j] w λe w'=>anP r N sp F I M s x c d f i j w e w':=by
 have bf:=ag ((aV w (af d f)).alloc (by simp) (af 0 0));have dg:=ag (show((w.alloc (af d f)).alloc (af 0 0)).heap[w.heap.size]?=some (af d f) from(is _ _ (by simp)).trans (bZ w _));have uH:=ag (show((w.alloc (af d f)).alloc (af 0 0)).heap[w.heap.size+1]?=some (af 0 0) from(by
  have :=bZ (w.alloc (af d f)) (af 0 0)
  simp_all))
 have dS:=ag (adh (h.ak bf.o) c l d f i);have lK:=ag (show ∀k,w.heap.size<=k->¬F k from λk hk hF=>by have :=h.m.lt k hF;omega);have bR:=ag (λW (y:J w W)=>Mu ((h.ak y).m.fi c l) 3 (by omega));have qz:=ag (λW (y:J w W)=>ac1 ((h.ak y).m.fi c l) (h.xw l) j);have pB:=ag (λW (y:J w W) (w':World) (C:s.ai c c<60) hw=>(h.ak y).step (w':=w') l C (chg:=.inl j) trivial hw);have aT:=ag h;clear h;go_enter func99,ntmps99;go_wp2_with fail
 refine dS.o.mono ?_;rintro e w1 ⟨aA,e3⟩;have cg:=ag (bB dg.o aA);have X:=ag (bB uH.o aA);have Y:=ag (bp bf.o aA);clear aA;have hz1:=Y.o.size;have yg:=aU X.o;have zr:=ag (show ∀W,J w W->∀a b,ri r N sp F I w ((W.setCell (H (w.heap.size+1)) a).setCell (K (w.heap.size+1) 1) b) x.eR M s from λW y a b=>aT.o.left ((y.setCell (show w.heap.size<=w.heap.size+1 by omega) _).setCell (show w.heap.size<=w.heap.size+1 by omega) _));rcases e3 with⟨m,hm,au,rfl⟩|⟨o,al,b3,eZ,⟨hi,rfl⟩|⟨b,hi,rfl⟩⟩
 .have dv:=ag au;clear au;obtain⟨E,L⟩:=bD X.o;have pt:=cV X.o;rcases hm with rfl|rfl
  .go_wp2;refine ey (v:=.tuple #[.agg #[A 0,A 0],A 3]) (by simp[results,results99,go_sem,E,L]) rfl ?_;exact(show _\/_ from .inl ⟨3,.inl dv.o,rfl,zr.o _ Y.o _ _⟩)
  go_wp2;refine ey (v:=.tuple #[.agg #[A 0,A 0],A 4]) (by simp[results,results99,go_sem,E,L]) rfl ?_;exact(show _\/_ from .inl ⟨4,.inl dv.o,rfl,zr.o _ Y.o _ _⟩)
 .have dv:=ag (aN al (aN b3 hi));clear al b3 eZ hi;obtain⟨E,L⟩:=bD X.o;have pt:=cV X.o;go_wp2;refine ey (v:=.tuple #[.agg #[A 0,A 0],A 7]) (by simp[results,results99,go_sem,E,L]) rfl ?_;exact(show _\/_ from .inl ⟨7,.inr (.inl ⟨rfl,o,dv.o⟩),rfl,zr.o _ Y.o _ _⟩)
 have B:=ag (aN al (aN b3 hi));clear al b3 hi eZ;go_wp2_with fail
 refine(bR.o _ Y.o).mono ?_;rintro e w2 ⟨rfl,bo⟩;have c7:=ag (bB cg.o bo);have kR:=ag (bB X.o bo);have bF:=ag (bp Y.o bo);clear bo;have ns:=aU kR.o;obtain⟨E,L⟩:=bD kR.o;have pt:=cV kR.o;by_cases C:s.ai c c+3<=60
 .have ao:decide (s.ai c c+((3:Nat):Int)<=60)=true:=nJ C;rw[ao];have P:=ag C;clear E L pt C ao;go_wp2_with fail
  refine(qz.o w2 bF.o).mono ?_;rintro e z ⟨rfl,hI⟩;obtain⟨t,v,jZ,mF,jG,ax⟩:=pB.o w2 bF.o z (by have :=P.o;omega) hI;have n:=ag ax;clear hI ax;have eQ:=ag ((n.o.2.2.1.other _ (aU c7.o) (lK.o _ (bW _))).trans c7.o);have r1:=ag ((n.o.2.2.1.other _ (aU kR.o) (lK.o _ (by omega))).trans kR.o);have Q:=ag (aV z (af (s.gt c+1) c));have rK:=ag (bZ z (af (s.gt c+1) c));have Ht:(gq s c (.inl j) t v).ai c c=s.ai c c+1:=by show upd s.ai c (upd (s.ai c) c (s.ai c c+1)) c c=_;rw[bL,bL]
  have e9:(gq s c (.inl j) t v).gt c=s.gt c+1:=by show upd s.gt c (s.gt c+1) c=_;rw[bL]
  have o8:bM (c1 ((gq s c (.inl j) t v).ar c)) (d,f)=some o:=by
   have av:(gq s c (.inl j) t v).ar c=s.ar c++[lH c (s.gt c) (s.ai c) (.inl j) t v]:=by unfold gq nB;simp only[bL]
   rw[av];unfold c1;rw[ga,Ax];show bM (cC (c1 (s.ar c)) (fZ (lH c (s.gt c) (s.ai c) (.inl j) t v).op)) (d,f)=some o;rw[Bl rfl,B.o.1]
  have HLY:=ag ((ac6 ((n.o.1.ak Q.o).m.fi c l) (n.o.1.xw l) (n.o.1.lp l) o8 B.o.2.1 (n.o.1.ix l o8 B.o.2.1) i B.o.2.2).mono λe w' aC=>show e=ad (.agg #[A (s.gt c+1+1),A c])/\_ from⟨aC.1.trans (by rw[e9]),aC.2⟩);rw[n.o.2.1]at HLY;have Rq:=ag (bB eQ.o Q.o);obtain⟨fj,gv⟩:=bD Rq.o;have zW:=aU Rq.o;have si:=ag (aN Ht e9);clear o8 Ht e9;have ov:=World.new_ne z (V w 0) (bD eQ.o).1;go_wp2_with fail
  refine HLY.o.mono ?_;rintro e R ⟨rfl,h7⟩;rw[<-n.o.2.1]at h7;obtain⟨t1,v1,kA,pO,Rj,a8⟩:=(n.o.1.ak Q.o).step (w':=R) l (by rw[si.o.1];have :=P.o;omega) (chg:=.inr (.inl ((d,f),b))) trivial h7;rw[n.o.2.1]at a8;have p:=ag a8;have anR:=ag (n.o.trans Q.o p.o);clear h7 a8 fj gv zW ov;have xb:=p.o.2.2.1.size;have ox:=n.o.2.2.1.size;have Mb:=Q.o.size;have HY:∀k,w.heap.size<=k->k<w2.heap.size->¬jZ k:=λk h1 S hF=>by
   rcases n.o.2.2.1.sub _ hF with h|h
   .exact lK.o _ h1 h
   omega
  have AN:¬jZ z.heap.size:=λhF=>by have :=n.o.1.m.lt _ hF;omega
  have hr:=(p.o.2.2.1.other _ (aU Rq.o) (HY _ (bW _) (aU c7.o))).trans Rq.o;have oZ:=(p.o.2.2.1.other _ (aU (bB r1.o Q.o)) (HY _ (by omega) ns)).trans (bB r1.o Q.o);have G1:=(p.o.2.2.1.other _ (aU rK.o) AN).trans rK.o;have jA:=ag (aV R (af (s.gt c+1+1) c));have qA:=ag (bZ R (af (s.gt c+1+1) c));have sM:=ag (bB hr jA.o);have Be:=ag (bB G1 jA.o);have wT:=ag (bB oZ jA.o);have Ka:(gq (gq s c (.inl j) t v) c (.inr (.inl ((d,f),b))) t1 v1).ai c c=s.ai c c+2:=by show upd _ c (upd _ c (_+1)) c c=_;rw[bL,bL,si.o.1];omega
  have anS:∀u,MV (pj (pj M s c (.inl j) t v) (gq s c (.inl j) t v) c (.inr (.inl ((d,f),b))) t1 v1 c) (.inr (.inr (.inl ((d,f),⟨#[]⟩,(s.gt c+2,(c:Int)),(0,(s.gt c+1,(c:Int))),u)))):=λu=>⟨λbI=>absurd rfl bI,.inr ⟨lH c (s.gt c) (s.ai c) (.inl j) t v,by rw[pj,pR,pj,pR];simp,rfl,j,rfl⟩⟩
  have Fu:=ag (λW (y:J R W)=>(Q6 ((p.o.1.ak y).m.fi c l) (p.o.1.xw l) (d,f) (s.gt c+2,(c:Int)) ⟨#[]⟩ (0,(s.gt c+1,(c:Int)))).mono λe w' aC=>show(∃jH,e=ad jH)/\∃u t2 v2 ut Fy xz,u.Perm ((fN (Rj.q c).D.1 (Rj.q c).D.2 (d,f) ⟨#[]⟩ (s.gt c+2,(c:Int))).aK.map (·.1))/\oB u/\Stepped r N sp kA pO W w' x.eR (pj (pj (pj M s c (.inl j) t v) (gq s c (.inl j) t v) c (.inr (.inl ((d,f),b))) t1 v1) (gq (gq s c (.inl j) t v) c (.inr (.inl ((d,f),b))) t1 v1) c (.inr (.inr (.inl ((d,f),⟨#[]⟩,(s.gt c+2,(c:Int)),(0,(s.gt c+1,(c:Int))),u)))) t2 v2) (gq (gq (gq s c (.inl j) t v) c (.inr (.inl ((d,f),b))) t1 v1) c (.inr (.inr (.inl ((d,f),⟨#[]⟩,(s.gt c+2,(c:Int)),(0,(s.gt c+1,(c:Int))),u)))) t2 v2) ut Fy xz from by obtain⟨he,u,au,aE,hw⟩:=aC;obtain⟨t2,v2,ut,Fy,xz,hy⟩:=(p.o.1.ak y).step (w':=w') l (by rw[Ka];have :=P.o;omega) (anS u) hw;rw[p.o.2.1]at hy;exact⟨he,u,t2,v2,ut,Fy,xz,au,aE,hy⟩)
  rw[p.o.2.1]at Fu;have lj:∀k,w.heap.size<=k->(k<w2.heap.size\/k=z.heap.size\/R.heap.size<=k)->¬kA k:=λk h1 S hF=>by
   have aL:=p.o.1.m.lt k hF;rcases p.o.2.2.1.sub _ hF with h|h
   .rcases S with S|S|S
    .exact HY k h1 S h
    .rw[S]at h;exact AN h
    omega
   have cY:(z.alloc (af (s.gt c+1) c)).heap.size=z.heap.size+1:=by simp
   omega
  have zj:=lj;obtain⟨gX,q1⟩:=bD sM.o;obtain⟨h4,wB⟩:=bD Be.o;obtain⟨AQ,wJ⟩:=bD qA.o;have sD:=aU sM.o;have jb:=aU Be.o;have Bk:=aU qA.o;rw[show s.gt c+1+1=s.gt c+2 by omega]at qA jA sM Be wT gX q1 h4 wB AQ wJ sD jb Bk⊢;have HHH:=ag (aN Ka si.o.2);go_wp2_with fail
  go_region_held3 (λW=>W.cell? (V w 0)=some (A d)/\W.cell? (V w 1)=some (A f)/\W.cell? (V z 0)=some (A (s.gt c+1))/\W.cell? (V z 1)=some (A c)/\W.cell? (V R 0)=some (A (s.gt c+2))/\W.cell? (V R 1)=some (A c)) (first |exact WC HX7.o WD.o HE7.o|exact WC tB.o WE.o WF.o|exact WC sM.o Be.o qA.o)
   (first
    |(go_at_call 63;refine(Ra _ _ _ _ _).mono ?_;rintro e w6 ⟨rfl,hb6⟩;have M7:=Hq.o (nv hb6);have tB:=ag (bB sM.o M7);have WE:=ag (bB Be.o M7);have WF:=ag (bB qA.o M7);have sz:=bB wT.o M7;have LK:=ag (bp jA.o M7))
    |(go_at_call 62;refine(Fu.o _ (by assumption)).mono ?_;rintro e w7 ⟨⟨jH,rfl⟩,u,t2,v2,ut,Fy,xz,au,aE,hy⟩;have U:=ag (aN au (aN aE hy));have HX7:=ag ((U.o.2.2.2.2.1.other _ (aU tB.o) (zj _ (bW _) (.inl (aU c7.o)))).trans tB.o);have WD:=ag ((U.o.2.2.2.2.1.other _ (aU WE.o) (zj _ (by omega) (.inr (.inl rfl)))).trans WE.o);have HE7:=ag ((U.o.2.2.2.2.1.other _ (aU WF.o) (zj _ (by omega) (.inr (.inr (bW _))))).trans WF.o);have WG:=ag ((U.o.2.2.2.2.1.other _ (aU sz) (zj _ (by omega) (.inl ns))).trans sz)))
  all_goals(
   obtain⟨fT,fm⟩:=bD WG.o;obtain⟨h4,wB⟩:=bD WD.o;have mf:=cV WG.o;have JJ:=aU WG.o;have awf:=aU WD.o;have gY:=ag (λa b=>Wr aT.o bF.o anR.o (by assumption) U.o.2.2 (g:=w.heap.size+1) (by omega) ns a b);go_wp2;refine ey (v:=.tuple #[.agg #[A (s.gt c+1),A c],A 0]) (by simp[results,results99,go_sem,fT,fm]) rfl ?_;exact(show _\/_ from .inr ⟨o,b,t,v,B.o.1,B.o.2.1,B.o.2.2,P.o,rfl,by rw[si.o.1];have :=P.o;omega,t1,v1,_,u,t2,v2,(p.o.1.doc l).1,(p.o.1.doc l).2.1,U.o.1,U.o.2.1,gY.o _ _⟩))
 have ao:decide (s.ai c c+((3:Nat):Int)<=60)=false:=p2 C;rw[ao];have P:=ag C;go_wp2;refine ey (v:=.tuple #[.agg #[A 0,A 0],A 8]) (by simp[results,results99,go_sem,E,L]) rfl ?_;exact(show _\/_ from .inl ⟨8,.inr (.inr ⟨rfl,⟨o,b,B.o⟩,Int.not_le.2 P.o⟩),rfl,zr.o _ bF.o _ _⟩)
end
section
open Go.RowKit Tryz
variable {a h j k:Nat}{b:Nat->List ay}{c i:Nat->Prop}{d:World}{e:bx}{f:da}
theorem adG:∀{l m:List PId},oB l->oB m->l.Perm m->l=m
 |[],m,_,_,c=>c.nil_eq
 |a::l,[],_,_,c=>absurd c.length_eq (by simp)
 |a::l,b::m,e,f,c=>by
  obtain⟨g,i⟩:=s9.1 e;obtain⟨j,k⟩:=s9.1 f;have n:a=b:=by
   rcases ft.1 (c.mem_iff.1 (kH (a:=a) (l:=l))) with h|h
   .exact h
   rcases ft.1 (c.mem_iff.2 (kH (a:=b) (l:=m))) with d|d
   .simp_all
   have :=EX (g b d) (j a h);rw[yq]at this;cases this
  subst n;rw[adG i k c.cons_inv]
theorem adH(l:List dr):(l.map oz).map (·.1)=l.map (·.dt):=by rw[rz];rfl
theorem WH(a:List ay)(y:ay):c1 (a++[y])=cC (c1 a) (fZ y.op):=by unfold c1;simp
theorem anT(p:bT)(o:bA):(hJ p o).aS=o.aS:=by
 unfold hJ;split
 .split <;>rfl
 split <;>rfl
theorem Kb(s:bx)(c:Nat)(a:mY)(t:TypeId)(v:Value):(gq s c a t v).ar c=s.ar c++[lH c (s.gt c) (s.ai c) a t v]:=by unfold gq nB;simp only[bL]
theorem Kc(s:bx)(c:Nat)(a:mY)(t:TypeId)(v:Value):(gq s c a t v).gt c=s.gt c+1:=by unfold gq nB;simp only[bL]
theorem anU(s:bx)(c:Nat)(a:mY)(t:TypeId)(v:Value):(gq s c a t v).ai c c=s.ai c c+1:=by unfold gq nB;simp only[bL]
theorem adI{f}{h:List ay}{g:Int}(r:∀o∈h,o.op.id.1<=g)(F:0<=g){a:PId}{o:bA}(k:bM (c1 h) a=some o)(l:o.aS=true){c:Int}{b:PId}{y:ay}(t:fZ y.op=⟨(g+1,c),2,false,a,⟨#[]⟩,(0,0),b,0,(0,0),[]⟩)(j:fO (c1 (h++[y])) f):(fN f.1 f.2 a ⟨#[]⟩ (g+1,c)).aK=[]:=by
 have u:=rX.all (h.map λ(o:ay)=>fZ o.op) dD [] rX.root;rw[WH,t]at j;have m:bM (cC (c1 h) ⟨(g+1,c),2,false,a,⟨#[]⟩,(0,0),b,0,(0,0),[]⟩) a=some (hJ ⟨(g+1,c),2,false,a,⟨#[]⟩,(0,0),b,0,(0,0),[]⟩ o):=by rw[EQ (show(2:Int)≠1 by decide),bn rfl,k];rfl
 have I:ju (hJ ⟨(g+1,c),2,false,a,⟨#[]⟩,(0,0),b,0,(0,0),[]⟩ o) ⟨#[]⟩ (g+1,c)=[]:=by
  unfold ju;cases n:(hJ ⟨(g+1,c),2,false,a,⟨#[]⟩,(0,0),b,0,(0,0),[]⟩ o).ss.find? (gA ⟨#[]⟩ (g+1,c)) with
  |none=>rfl
  |some s=>
   have d:=D9 n;have v:=(q4.1 (IA n)).2;unfold hJ at d;rw[bn rfl,bn l]at d;rcases MP d with d|rfl
   .exfalso;rcases u.slot a o k s d with i|i
    .have w:g+1=0:=by simp_all
     omega
    rw[v,oM,List.mem_reverse]at i;obtain⟨p,x,e⟩:=dF.1 i;obtain⟨z,B,rfl⟩:=dF.1 x;rw[rf]at e;have C:=r z B;have w:z.op.id.1=g+1:=by rw[e]
    omega
   rfl
 by_cases q:(g+1,c)∈(hJ ⟨(g+1,c),2,false,a,⟨#[]⟩,(0,0),b,0,(0,0),[]⟩ o).ss.map cK.id
 .have C:=(j.Jy m (by rw[anT];exact l) q).2
  simp_all
 have L:mX f.1 f.2 a ⟨#[]⟩ (g+1,c)=false:=by
  unfold mX;rw[bn rfl];cases D:bV (g+1,c) f.2 with
  |none=>rfl
  |some e=>
   refine p2 λE=>q ?_
   obtain⟨M,d,_,i⟩:=j.el _ e D;rw[E,m]at d;cases d;exact i
 unfold fN
 simp_all
def nD (c:Nat):List bT->(Nat->List ay)->bx->(Nat->List ay)->bx->Prop
 |[],M,s,a,b=>a=M/\b=s
 |p::e,M,s,a,b=>∃d t v,fZ (lH c (s.gt c) (s.ai c) d t v).op=p/\nD c e (pj M s c d t v) (gq s c d t v) a b
theorem nD.one(M:Nat->List ay)(s:bx)(c:Nat)(a:mY)(t:TypeId)(v:Value):nD c [fZ (lH c (s.gt c) (s.ai c) a t v).op] M s (pj M s c a t v) (gq s c a t v):=⟨a,t,v,rfl,rfl,rfl⟩
theorem nD.app{c:Nat}:∀{a b:List bT} {M d e:Nat->List ay} {s f g:bx},nD c a M s d f->nD c b d f e g->nD c (a++b) M s e g
 |[],_,_,_,_,_,_,_,⟨i,j⟩,h=>by simp_all
 |_::_,_,_,_,_,_,_,_,⟨k,t,v,i,j⟩,h=>⟨k,t,v,i,nD.app j h⟩
def Fz (r N a:Nat) (F I:Nat->Prop) (M:Nat->List ay) (s:bx) (x:da) (c:Nat) (b:Except Int (List bT)) (E:Int->Ending) (Y:Ending) (w:World) (e:Ending) (d:World):Prop:=
 (∃m,b=.error m/\e=E m/\ri r N a F I w d x.eR M s)\/(∃f g h,b=.ok f/\e=Y/\nD c f M s g h/\ri r N a F I w d x.eR g h)
theorem ei.Fx{w r F I N e M s x}(h:ei w r F I N e M s x){c:Nat}(f:c<N){y:PId}{o:bA}(g:bM (c1 (s.ar c)) y=some o){a:ByteArray}{z:PId}{d:List (PId×eP)}{b:List PId}(i:d.Perm ((ju o a z).map oz))(j:b.Perm (d.map (·.1)))(k:oB b):b=(ju o a z).map (·.dt):=by refine adG k ((rl.of (h.ok.j1 c f)).Fx g a z) ?_;rw[<-adH];exact j.trans (i.map _)
theorem ei.anV (g:ei d h c i j k b e f) (r:a<j) (w x n:Int) (p:ByteArray) (C:p.size<=maxLen):O 23 #[Z h,A a,.agg #[A w,A x],.string p,A n] d λl B=>Fz h j k c i b e f a (wP (c1 (e.ar a)) (e.gt a) (b a).length a (w,x) p n) (λm=>ad (A m)) (ad (A 0)) d l B:=by
 have L:=g.ok.own a r;refine(ang g r w x n p C).mono ?_;rintro l B (⟨m,y,rfl,z⟩|⟨o,M,q,s,u,D,E,rfl,F,t,v,z⟩)
 .refine .inl ⟨m,?_,rfl,z⟩;unfold wP;rcases y with y|⟨rfl,⟨o,q,s,u⟩,F⟩
  .rw[y]
  rw[Dx q s,u];show(if(b a).length<60 then _ else _)=_;rw[a7 (by omega)]
 have I:p≠⟨#[]⟩:=λl=>by rw[l]at u;contradiction
 refine .inr ⟨_,_,_,?_,rfl,nD.one b e a _ t v,z⟩;unfold wP;rw[Dx q s,u];show(if(b a).length<60 then _ else _)=_;rw[bn (by omega),<-(g.Fx r q ((g.lp r).C5 q s I (0,0)).2 D E)];rfl
theorem ei.anW (l:ei d h c i j k b e f) (s:a<j) (x y:Int) (n:ByteArray) (E:n.size<=maxLen):O 78 #[Z h,A a,.agg #[A x,A y],.string n] d λg D=>Fz h j k c i b e f a (vq (c1 (e.ar a)) (e.gt a) (b a).length a (x,y) n) (λm=>ad (A m)) (ad (A 0)) d g D:=by
 have N:=l.ok.own a s;refine(anl l s x y n E).mono ?_;rintro g D (⟨m,z,rfl,B⟩|⟨o,P,p,q,r,F,I,rfl,L,M,t,v,B⟩)
 .refine .inl ⟨m,?_,rfl,B⟩;unfold vq;rcases z with z|⟨rfl,⟨o,p,q,r⟩,C⟩|⟨rfl,⟨⟨o,p,q,r⟩,C⟩,M⟩
  .rw[z]
  .have u:n≠⟨#[]⟩:=λg=>by rw[g]at r;contradiction
   have w:=((l.lp s).C5 p q u (0,0)).2;rw[C]at w;rw[Dx p q,r]
   simp_all
  have u:n≠⟨#[]⟩:=λg=>by rw[g]at r;contradiction
  have w:=((l.lp s).C5 p q u (0,0)).2;rw[Dx p q,r];show(if(ju o n (0,0)).length=0 then _ else if(b a).length<60 then _ else _)=_;rw[a7 (λg=>C (by simp_all)),a7 (by omega)]
 have u:n≠⟨#[]⟩:=λg=>by rw[g]at r;contradiction
 have w:=((l.lp s).C5 p q u (0,0)).2;refine .inr ⟨_,_,_,?_,rfl,nD.one b e a _ t v,B⟩;unfold vq;rw[Dx p q,r];show(if(ju o n (0,0)).length=0 then _ else if(b a).length<60 then _ else _)=_;rw[a7 (λg=>L (by simp_all)),bn (by omega),<-(l.Fx s p w F I)];rfl
theorem ei.anX (l:ei d h c i j k b e f) (z:a<j) (u w g n:Int):O 33 #[Z h,A a,.agg #[A u,A w],A g,A n] d λp D=>Fz h j k c i b e f a (lV (c1 (e.ar a)) (e.gt a) (b a).length a (u,w) g 3 n) (λm=>ad (A m)) (ad (A 0)) d p D:=by
 have U:=l.ok.own a z;refine(anh l z u w g n).mono ?_;rintro p D (⟨m,B,rfl,C⟩|⟨o,y,W,r,s,F,I,L,M,rfl,N,t,v,C⟩)
 .refine .inl ⟨m,?_,rfl,C⟩;unfold lV;rcases B with B|⟨rfl,o,r,s,E⟩|⟨⟨rfl,N⟩,o,r,s,E⟩
  .rw[B]
  .rw[tI r s]
   simp_all
  rw[tI r s];show(if g<0\/((eJ o).length:Int)<=g then _ else if(b a).length<60 then _ else _)=_;rw[a7 E,a7 (by omega)]
 refine .inr ⟨_,_,_,?_,rfl,nD.one b e a _ t v,C⟩;unfold lV;rw[tI r s];show(if g<0\/((eJ o).length:Int)<=g then _ else if(b a).length<60 then _ else _)=_;have P:(eJ o).getD g.toNat (0,0)=y:=by simp_all
 have Q:GJ (c1 (e.ar a)) (u,w) y=(ju o ⟨#[]⟩ y).map (·.dt):=by
  unfold GJ;rcases Mm (c1 (e.ar a)) (u,w) true with⟨x,_⟩|⟨X,q,x,R,S⟩
  .rw[r]at x;cases x
  rw[r]at x;cases x;rw[S,bn s];simp only[R]
 rw[a7 F,bn (by omega),P,Q,<-(l.Fx z r ((l.lp z).Jy r s (abt (IE I))).2 L M)];rfl
theorem ei.anY (l:ei d h c i j k b e f) (x:a<j) (s u g:Int):O 34 #[Z h,A a,.agg #[A s,A u],A g] d λn C=>Fz h j k c i b e f a (lV (c1 (e.ar a)) (e.gt a) (b a).length a (s,u) g 4 0) (λm=>ad (A m)) (ad (A 0)) d n C:=by
 have S:=l.ok.own a x;refine(ani l x s u g).mono ?_;rintro n C (⟨m,z,rfl,B⟩|⟨o,y,U,q,r,E,F,I,L,rfl,M,t,v,B⟩)
 .refine .inl ⟨m,?_,rfl,B⟩;unfold lV;rcases z with z|⟨rfl,o,q,r,D⟩|⟨rfl,⟨o,q,r,D⟩,M⟩
  .rw[z]
  .rw[tI q r]
   simp_all
  rw[tI q r];show(if g<0\/((eJ o).length:Int)<=g then _ else if(b a).length<60 then _ else _)=_;rw[a7 D,a7 (by omega)]
 refine .inr ⟨_,_,_,?_,rfl,nD.one b e a _ t v,B⟩;unfold lV;rw[tI q r];show(if g<0\/((eJ o).length:Int)<=g then _ else if(b a).length<60 then _ else _)=_;have N:(eJ o).getD g.toNat (0,0)=y:=by simp_all
 have P:GJ (c1 (e.ar a)) (s,u) y=(ju o ⟨#[]⟩ y).map (·.dt):=by
  unfold GJ;rcases Mm (c1 (e.ar a)) (s,u) true with⟨w,_⟩|⟨W,p,w,Q,R⟩
  .rw[q]at w;cases w
  rw[q]at w;cases w;rw[R,bn r];simp only[Q]
 rw[a7 E,bn (by omega),N,P,<-(l.Fx x q ((l.lp x).Jy q r (abt (IE F))).2 I L)];rfl
theorem ei.anZ (l:ei d h c i j k b e f) (x:a<j) (q r:Int) (p:ByteArray) (D:p.size<=maxLen) (n:Bool):O 38 #[Z h,A a,.agg #[A q,A r],.string p,.bool n] d λg C=>Fz h j k c i b e f a (wQ (c1 (e.ar a)) (e.gt a) (b a).length a (q,r) p n) (λm=>ad (.tuple #[.agg #[A 0,A 0],A m])) (ad (.tuple #[.agg #[A (e.gt a+1),A a],A 0])) d g C:=by
 have R:=l.ok.own a x;refine(ano l x q r p D n).mono ?_;rintro g C (⟨m,y,rfl,z⟩|⟨o,s,u,w,rfl,E,t,v,S,B,F,I,L,_,M,N,z⟩)
 .refine .inl ⟨m,?_,rfl,z⟩;unfold wQ;rcases y with y|⟨rfl,⟨o,s,u,w⟩,E⟩
  .rw[y]
  rw[Dx s u,w];show(if(b a).length<59 then _ else _)=_;rw[a7 (by omega)]
 have P:p≠⟨#[]⟩:=λg=>by rw[g]at w;contradiction
 have Q:bM (c1 ((gq e a (.inl n) t v).ar a)) (q,r)=some o:=by rw[Kb,WH,Bl rfl,s]
 refine .inr ⟨_,_,_,?_,rfl,(nD.one b e a (.inl n) t v).app (nD.one (pj b e a (.inl n) t v) (gq e a (.inl n) t v) a (.inr (.inr (.inl ((q,r),p,(0,0),(0,(e.gt a+1,(a:Int))),B)))) F I),z⟩;unfold wQ;rw[Dx s u,w];show(if(b a).length<59 then _ else _)=_;rw[bn (by omega),<-(l.Fx x s (L.C5 Q u P (0,0)).2 M N)];show Except.ok [wN (e.gt a+1) a n,AW 3 (e.gt a+2) a (q,r) p 0 (e.gt a+1,(a:Int)) B]=Except.ok [wN (e.gt a+1) a n,AW 3 ((gq e a (.inl n) t v).gt a+1) a (q,r) p 0 (e.gt a+1,(a:Int)) B];rw[Kc,Ja]
theorem ei.an0 {I:Nat->Prop} {M:Nat->List ay} (k:ei d a i I h j M e f) {c:Nat} (u:c<h) (p q g n:Int):O 32 #[Z a,A c,.agg #[A p,A q],A g,A n] d λl y=>Fz a h j i I M e f c (vr (c1 (e.ar c)) (e.gt c) (M c).length c (p,q) g n) (λm=>ad (.tuple #[.agg #[A 0,A 0],A m])) (ad (.tuple #[.agg #[A (e.gt c+1),A c],A 0])) d l y:=by
 have N:=k.ok.own c u;refine(anr k u p q g n).mono ?_;rintro l y (⟨m,w,rfl,x⟩|⟨o,b,r,s,D,rfl,E,t,v,P,Q,F,L,z,_,B,R,x⟩)
 .refine .inl ⟨m,?_,rfl,x⟩;unfold vr;rcases w with w|⟨rfl,o,r,s,C⟩|⟨rfl,⟨o,b,r,s,C⟩,E⟩
  .rw[w]
  .rw[tI r s]
   simp_all
  rw[tI r s];show(match lC (eJ o) g with |none=>_|some b=>if(M c).length<59 then _ else _)=_;rw[C];show(if(M c).length<59 then _ else _)=_;rw[a7 (by omega)]
 rw[Kb]at z;rw[adI (k.ok.copy c u).BM (k.ok.xu c u).1 r s (c:=(c:Int)) (b:=b) rfl z,uV]at B;obtain rfl:=List.Perm.eq_nil B;refine .inr ⟨_,_,_,?_,rfl,(nD.one M e c (.inr (.inl ((p,q),b))) t v).app (nD.one (pj M e c (.inr (.inl ((p,q),b))) t v) (gq e c (.inr (.inl ((p,q),b))) t v) c (.inr (.inr (.inl ((p,q),⟨#[]⟩,(e.gt c+1,(c:Int)),(n,(0,0)),[])))) F L),x⟩;unfold vr;rw[tI r s];show(match lC (eJ o) g with |none=>_|some b=>if(M c).length<59 then _ else _)=_;rw[D];show(if(M c).length<59 then _ else _)=_;rw[bn (by omega)];show Except.ok [wO (e.gt c+1) c (p,q) b,vp 3 (e.gt c+2) c (p,q) (e.gt c+1,(c:Int)) n (0,0) []]=Except.ok [wO (e.gt c+1) c (p,q) b,vp 3 ((gq e c (.inr (.inl ((p,q),b))) t v).gt c+1) c (p,q) (e.gt c+1,(c:Int)) n (0,0) []];rw[Kc,Ja]
theorem ei.an1 {I:Nat->Prop} {M:Nat->List ay} (k:ei d a i I h j M e f) {c:Nat} (z:c<h) (p q g:Int) (n:Bool):O 99 #[Z a,A c,.agg #[A p,A q],A g,.bool n] d λl D=>Fz a h j i I M e f c (vs (c1 (e.ar c)) (e.gt c) (M c).length c (p,q) g n) (λm=>ad (.tuple #[.agg #[A 0,A 0],A m])) (ad (.tuple #[.agg #[A (e.gt c+1),A c],A 0])) d l D:=by
 have X:=k.ok.own c z;refine(anQ k z p q g n).mono ?_;rintro l D (⟨m,B,rfl,C⟩|⟨o,b,r,s,u,w,P,Y,rfl,Q,t,v,ki,ss,R,S,E,_,F,aE,C⟩)
 .refine .inl ⟨m,?_,rfl,C⟩;unfold vs;rcases B with B|⟨rfl,o,u,w,L⟩|⟨rfl,⟨o,b,u,w,L⟩,Q⟩
  .rw[B]
  .rw[tI u w]
   simp_all
  rw[tI u w];show(match lC (eJ o) g with |none=>_|some b=>if(M c).length<58 then _ else _)=_;rw[L];show(if(M c).length<58 then _ else _)=_;rw[a7 (by omega)]
 have U:bM (c1 ((gq e c (.inl n) r s).ar c)) (p,q)=some o:=by rw[Kb,WH,Bl rfl,u]
 have hg0:=(k.ok.xu c z).1;have W:∀y∈(gq e c (.inl n) r s).ar c,y.op.id.1<=e.gt c+1:=λy x=>by
  rw[Kb]at x;rcases dZ.1 x with x|x
  .have :=(k.ok.copy c z).BM y x;omega
  obtain rfl:=fR.1 x;exact D8 _
 rw[Kb (gq e c (.inl n) r s)]at E;have N:=adI W (by omega) U w (c:=(c:Int)) (b:=b) (y:=lH c ((gq e c (.inl n) r s).gt c) ((gq e c (.inl n) r s).ai c) (.inr (.inl ((p,q),b))) t v) (by rw[Kc];rfl) E;rw[show e.gt c+1+1=e.gt c+2 by omega]at N;rw[N,uV]at F;obtain rfl:=List.Perm.eq_nil F;refine .inr ⟨_,_,_,?_,rfl,(nD.one M e c (.inl n) r s).app ((nD.one (pj M e c (.inl n) r s) (gq e c (.inl n) r s) c (.inr (.inl ((p,q),b))) t v).app (nD.one (pj (pj M e c (.inl n) r s) (gq e c (.inl n) r s) c (.inr (.inl ((p,q),b))) t v) (gq (gq e c (.inl n) r s) c (.inr (.inl ((p,q),b))) t v) c (.inr (.inr (.inl ((p,q),⟨#[]⟩,(e.gt c+2,(c:Int)),(0,(e.gt c+1,(c:Int))),[])))) R S)),C⟩;unfold vs;rw[tI u w];show(match lC (eJ o) g with |none=>_|some b=>if(M c).length<58 then _ else _)=_;rw[P];show(if(M c).length<58 then _ else _)=_;rw[bn (by omega)];show Except.ok [wN (e.gt c+1) c n,wO (e.gt c+2) c (p,q) b,vp 3 (e.gt c+3) c (p,q) (e.gt c+2,(c:Int)) 0 (e.gt c+1,(c:Int)) []]=Except.ok [wN (e.gt c+1) c n,wO ((gq e c (.inl n) r s).gt c+1) c (p,q) b,vp 3 ((gq (gq e c (.inl n) r s) c (.inr (.inl ((p,q),b))) t v).gt c+1) c (p,q) (e.gt c+2,(c:Int)) 0 (e.gt c+1,(c:Int)) []];rw[Kc (gq e c (.inl n) r s),Kc,Ja,show e.gt c+2+1=e.gt c+3 by omega]
end
section
open Go.RowKit Tryz
attribute [local go_sem ↓] Go.wp_at_zero Go.wp_at_succ
variable {a c:Nat}{b:World}
theorem M8{o:Obj}(h:a=b.heap.size):(b.alloc o).heap[a]?=some o:=by rw[h];exact bZ b o
structure j6 (w:World) (r N:Nat):Prop where
 bb:∃dy fy kY,w.heap[r]?=some (.cells #[aa dy N fy,.map (some kY)] 119)/\N<=fy/\fy<=maxLen
 hN:N<=4
theorem j6.ak{w}{w':World}(h:j6 w a c)(b:J w w'):j6 w' a c:=by obtain⟨d,e,f,g,i⟩:=h.bb;exact⟨⟨d,e,f,bB g b,i⟩,h.hN⟩
theorem eC.j6{w r F I N b s x}(h:eC w r F I N b s x):Go.Proofs.YtnkpogjiiohapaaGreatDoor.j6 w r N:=by have g:=h.cap;obtain⟨a,i,e,c,d,_⟩:=bz h.row;injection e with _ _ f;subst f;exact⟨⟨_,_,_,h.bb,c,d⟩,h.hN⟩
theorem M9 (h:j6 b c a) (d:Int) (i:¬(0<=d/\d<a)):
  O 44 #[Z c,A d] b λe f=>e=ad (.tuple #[.pointer none,A 2])/\f=b:=by
 obtain⟨j,k,l,g,m,n⟩:=h.bb;have o:=(bD g).1;have p:=h.hN;by_cases q:d<0
 .go_enter func44,ntmps44;go_wp2;go_ret2
  simp
 have r:(a:Int)<=d:=by omega
 go_enter func44,ntmps44;go_wp2;go_ret2
 simp
theorem Rr (h:j6 b a c) (d:Int) (j:¬(0<=d/\d<c)) (f g:Int) (k:Bool):
  O 56 #[Z a,A d,.agg #[A f,A g],.bool k] b λe l=>J b l/\e=ad (.tuple #[.pointer none,A 2]):=by
 have i:=aV b (af f g);go_enter func56,ntmps56;go_wp2_with fail
 refine(M9 (h.ak i) d j).mono ?_;rintro e m ⟨rfl,rfl⟩;go_wp2;go_ret2
 exact⟨i,rfl⟩
theorem Rs (h:j6 b a c) (d:Int) (l:¬(0<=d/\d<c)) (f g:Int) (m:ByteArray):
  O 46 #[Z a,A d,.agg #[A f,A g],.string m] b λe n=>J b n/\e=ad (.tuple #[.pointer none,.agg #[A 0,A 0,.string ⟨#[]⟩,A 0,A 0],A 2]):=by
 have j:=(aV b (af f g)).alloc (by simp) (.cells #[A 0,A 0,.string ⟨#[]⟩,A 0,A 0] 97);go_enter func46,ntmps46;go_wp2_with fail
 refine(Rr (h.ak j) d l f g false).mono ?_;rintro e t ⟨k,rfl⟩;have i:=bB (show((b.alloc (af f g)).alloc (.cells #[A 0,A 0,.string ⟨#[]⟩,A 0,A 0] 97)).heap[b.heap.size+1]?=some (.cells #[A 0,A 0,.string ⟨#[]⟩,A 0,A 0] 97) from M8 (by simp)) k;obtain⟨o,p,q,r,s⟩:=fh i;have u:=cV i;have w:=aU i;go_wp2;refine ey (v:=.tuple #[.pointer none,.agg #[A 0,A 0,.string ⟨#[]⟩,A 0,A 0],A 2]) (by simp[results,results46,go_sem,o,p,q,r,s]) rfl ?_;exact⟨zV (bp j k) (by omega) _ _ _ _ _,rfl⟩
theorem adJ (h:j6 b a c) (d:Int) (m:¬(0<=d/\d<c)) (f g i:Int):
  O 64 #[Z a,A d,.agg #[A f,A g],A i] b λe n=>J b n/\e=ad (.tuple #[.pointer none,.agg #[A 0,A 0,.string ⟨#[]⟩,A 0,A 0],A 2]):=by
 have k:=(aV b (af f g)).alloc (by simp) (.cells #[A 0,A 0,.string ⟨#[]⟩,A 0,A 0] 97);go_enter func64,ntmps64;go_wp2_with fail
 refine(Rr (h.ak k) d m f g true).mono ?_;rintro e t ⟨l,rfl⟩;have j:=bB (show((b.alloc (af f g)).alloc (.cells #[A 0,A 0,.string ⟨#[]⟩,A 0,A 0] 97)).heap[b.heap.size+1]?=some (.cells #[A 0,A 0,.string ⟨#[]⟩,A 0,A 0] 97) from M8 (by simp)) l;obtain⟨o,p,q,r,s⟩:=fh j;have u:=cV j;have w:=aU j;go_wp2;refine ey (v:=.tuple #[.pointer none,.agg #[A 0,A 0,.string ⟨#[]⟩,A 0,A 0],A 2]) (by simp[results,results64,go_sem,o,p,q,r,s]) rfl ?_;exact⟨zV (bp k l) (by omega) _ _ _ _ _,rfl⟩
theorem adK (h:j6 b a c) (d:Int) (k:¬(0<=d/\d<c)) (f g i:Int):
  O 59 #[Z a,A d,.agg #[A f,A g],A i] b λe l=>J b l/\e=ad (.tuple #[.pointer none,A 2]):=by
 have j:=aV b (af f g);go_enter func59,ntmps59;go_wp2_with fail
 refine(Rr (h.ak j) d k f g true).mono ?_;rintro e n ⟨m,rfl⟩;go_wp2;go_ret2
 exact⟨bp j m,rfl⟩
theorem an2 (h:j6 b a c) (d:Int) (l:¬(0<=d/\d<c)) (f g n:Int) (i:ByteArray):
  O 23 #[Z a,A d,.agg #[A f,A g],.string i,A n] b λe m=>e=ad (A 2)/\J b m:=by
 have j:=aV b (af f g);go_enter func23,ntmps23;go_wp2_with fail
 refine(Rs (h.ak j) d l f g i).mono ?_;rintro e p ⟨o,rfl⟩;have k:=bp j o;go_wp2;go_ret
 exact⟨rfl,(k.alloc k.size _)⟩
theorem an3 (h:j6 b a c) (d:Int) (l:¬(0<=d/\d<c)) (f g:Int) (i:ByteArray):
  O 78 #[Z a,A d,.agg #[A f,A g],.string i] b λe m=>e=ad (A 2)/\J b m:=by
 have j:=aV b (af f g);go_enter func78,ntmps78;go_wp2_with fail
 refine(Rs (h.ak j) d l f g i).mono ?_;rintro e o ⟨n,rfl⟩;have k:=bp j n;go_wp2;go_ret
 exact⟨rfl,(k.alloc k.size _)⟩
theorem an4 (h:j6 b a c) (d:Int) (l:¬(0<=d/\d<c)) (f g i n:Int):
  O 33 #[Z a,A d,.agg #[A f,A g],A i,A n] b λe m=>e=ad (A 2)/\J b m:=by
 have j:=aV b (af f g);go_enter func33,ntmps33;go_wp2_with fail
 refine(adJ (h.ak j) d l f g i).mono ?_;rintro e p ⟨o,rfl⟩;have k:=bp j o;go_wp2;go_ret
 exact⟨rfl,(k.alloc k.size _)⟩
theorem an5 (h:j6 b a c) (d:Int) (l:¬(0<=d/\d<c)) (f g i:Int):
  O 34 #[Z a,A d,.agg #[A f,A g],A i] b λe m=>e=ad (A 2)/\J b m:=by
 have j:=aV b (af f g);go_enter func34,ntmps34;go_wp2_with fail
 refine(adJ (h.ak j) d l f g i).mono ?_;rintro e o ⟨n,rfl⟩;have k:=bp j n;go_wp2;go_ret
 exact⟨rfl,(k.alloc k.size _)⟩
theorem an6 (h:j6 b a c) (d:Int) (n:¬(0<=d/\d<c)) (f g:Int) (j:ByteArray) (o:Bool):
  O 38 #[Z a,A d,.agg #[A f,A g],.string j,.bool o] b λe p=>e=ad (.tuple #[.agg #[A 0,A 0],A 2])/\J b p:=by
 have k:=(aV b (af f g)).alloc (by simp) (af 0 0);go_enter func38,ntmps38;go_wp2_with fail
 refine(Rs (h.ak k) d n f g j).mono ?_;rintro e q ⟨l,rfl⟩;have i:=bB (show((b.alloc (af f g)).alloc (af 0 0)).heap[b.heap.size+1]?=some (af 0 0) from M8 (by simp)) l;have m:=bp k l;have u:=m.size;obtain⟨r,w⟩:=bD i;have x:=cV i;have y:=aU i;have z:=World.new_ne q (H (b.heap.size+1)) r;obtain⟨s,t⟩:=adj i (A 0) (A 0) (.cells #[A 0,A 0,.string ⟨#[]⟩,A 0,A 0] 97);go_wp2;refine ey (v:=.tuple #[.agg #[A 0,A 0],A 2]) (by simp[results,results38,go_sem,s,t]) rfl ?_;exact⟨rfl,(((m.setCell (show b.heap.size<=b.heap.size+1 by omega) _).setCell (show b.heap.size<=b.heap.size+1 by omega) _).alloc (by simp_all) _)⟩
theorem an7 (h:j6 b a c) (d:Int) (p:¬(0<=d/\d<c)) (f g i n:Int):
  O 32 #[Z a,A d,.agg #[A f,A g],A i,A n] b λe q=>e=ad (.tuple #[.agg #[A 0,A 0],A 2])/\J b q:=by
 have k:=(aV b (af f g)).alloc (by simp) (af 0 0);go_enter func32,ntmps32;go_wp2_with fail
 refine(adK (h.ak k) d p f g i).mono ?_;rintro e r ⟨l,rfl⟩;have j:=bB (show((b.alloc (af f g)).alloc (af 0 0)).heap[b.heap.size+1]?=some (af 0 0) from M8 (by simp)) l;have m:=bp k l;have t:=m.size;obtain⟨o,s⟩:=bD j;have u:=cV j;have w:=aU j;have x:=World.new_ne r (H (b.heap.size+1)) o;go_wp2;refine ey (v:=.tuple #[.agg #[A 0,A 0],A 2]) (by simp[results,results32,go_sem,o,s]) rfl ?_;exact⟨rfl,((m.setCell (show b.heap.size<=b.heap.size+1 by omega) _).setCell (show b.heap.size<=b.heap.size+1 by omega) _)⟩
theorem an8 (h:j6 b a c) (d:Int) (o:¬(0<=d/\d<c)) (f g i:Int) (p:Bool):
  O 99 #[Z a,A d,.agg #[A f,A g],A i,.bool p] b λe q=>e=ad (.tuple #[.agg #[A 0,A 0],A 2])/\J b q:=by
 have k:=(aV b (af f g)).alloc (by simp) (af 0 0);go_enter func99,ntmps99;go_wp2_with fail
 refine(adK (h.ak k) d o f g i).mono ?_;rintro e r ⟨l,rfl⟩;have j:=bB (show((b.alloc (af f g)).alloc (af 0 0)).heap[b.heap.size+1]?=some (af 0 0) from M8 (by simp)) l;have m:=bp k l;have t:=m.size;obtain⟨n,s⟩:=bD j;have u:=cV j;have w:=aU j;have x:=World.new_ne r (H (b.heap.size+1)) n;go_wp2;refine ey (v:=.tuple #[.agg #[A 0,A 0],A 2]) (by simp[results,results99,go_sem,n,s]) rfl ?_;exact⟨rfl,((m.setCell (show b.heap.size<=b.heap.size+1 by omega) _).setCell (show b.heap.size<=b.heap.size+1 by omega) _)⟩
theorem an9 (h:j6 b a c) (d:Int) (j:¬(0<=d/\d<c)) (f g:Int):
  O 29 #[Z a,A d,.agg #[A f,A g]] b λe k=>e=ad (.tuple #[.slice none 0 0,A 2])/\J b k:=by
 have i:=aV b (af f g);go_enter func29,ntmps29;go_wp2_with fail
 refine(Rr (h.ak i) d j f g true).mono ?_;rintro e m ⟨l,rfl⟩;go_wp2;go_ret2
 exact⟨rfl,bp i l⟩
theorem aoa (h:j6 b a c) (d:Int) (l:¬(0<=d/\d<c)) (f g:Int) (i:ByteArray):
  O 24 #[Z a,A d,.agg #[A f,A g],.string i] b λe m=>e=ad (.tuple #[.slice none 0 0,A 2])/\J b m:=by
 have j:=aV b (af f g);go_enter func24,ntmps24;go_wp2_with fail
 refine(Rs (h.ak j) d l f g i).mono ?_;rintro e o ⟨n,rfl⟩;have k:=bp j n;go_wp2;go_ret2
 exact⟨rfl,(k.alloc k.size _)⟩
theorem aob (h:j6 b a c) (d:Int) (f:¬(0<=d/\d<c)):
  O 28 #[Z a,A d] b λe g=>e=ad (.tuple #[.string ⟨#[]⟩,A 2])/\J b g:=by
 go_enter func28,ntmps28;go_wp2_with fail
 refine(M9 h d f).mono ?_;rintro e i ⟨rfl,rfl⟩;go_wp2;go_ret2
 exact⟨rfl,(ca _ _)⟩
theorem aoc (h:j6 b a c) (d:Int) (f:¬(0<=d/\d<c)):
  O 25 #[Z a,A d] b λe g=>e=ad (.tuple #[.slice none 0 0,A 2])/\J b g:=by
 go_enter func25,ntmps25;go_wp2_with fail
 refine(M9 h d f).mono ?_;rintro e i ⟨rfl,rfl⟩;go_wp2;go_ret2
 exact⟨rfl,ca _ _⟩
theorem aod (h:j6 b a c) (d:Int) (f:¬(0<=d/\d<c)):
  O 21 #[Z a,A d] b λe g=>e=ad (.tuple #[A 0,A 2])/\J b g:=by
 go_enter func21,ntmps21;go_wp2_with fail
 refine(M9 h d f).mono ?_;rintro e i ⟨rfl,rfl⟩;go_wp2;go_ret2
 exact⟨rfl,ca _ _⟩
theorem aoe (h:j6 b a c) (d:Int) (f:¬(0<=d/\d<c)):
  O 125 #[Z a,A d] b λe g=>e=ad (.tuple #[A 0,A 2])/\J b g:=by
 go_enter func125,ntmps125;go_wp2_with fail
 refine(M9 h d f).mono ?_;rintro e i ⟨rfl,rfl⟩;go_wp2;go_ret2
 exact⟨rfl,ca _ _⟩
def isSet (st:Nat->Int) (o:ay):Bool:=decide (o.op.cb<=st o.op.id.2.toNat)
def kE (st:Nat->Int) (ar:List ay):Nat:=(ar.takeWhile (isSet st)).length
theorem aof(st:Nat->Int)(ar:List ay):kE st ar<=ar.length:=(agc _).length_le
theorem adL{st:Nat->Int}:∀{ar:List ay} {k:Nat} (a:k<ar.length),(∀j (c:j<ar.length),j<k->isSet st ar[j]=true)->isSet st ar[k]=false->kE st ar=k
 |o::ar,0,_,_,h=>by
  unfold kE
  simp_all
 |o::ar,k+1,a,b,e=>by have d:isSet st o=true:=b 0 (by simp) (by omega);unfold kE;rw[agd d,iq];have :=adL (st:=st) (ar:=ar) (k:=k) (by simpa using a) (λj c f=>b (j+1) (by omega) (by omega)) (by simp_all);unfold kE at this;omega
theorem adM{st:Nat->Int}:∀{ar:List ay},(∀j (a:j<ar.length),isSet st ar[j]=true)->kE st ar=ar.length
 |[],_=>rfl
 |o::ar,h=>by have b:isSet st o=true:=h 0 (by simp);unfold kE;rw[agd b,iq,iq];have :=adM (st:=st) (ar:=ar) (λj a=>h (j+1) (by simp_all));unfold kE at this;omega
theorem adN{p:ay->Bool}{o:ay}:∀{l:List ay},o∈l.takeWhile p->p o=true
 |[],h=>by cases h
 |x::l,h=>by
  cases a:p x with
  |false=>rw[List.takeWhile_cons_of_neg (by simp[a])]at h;cases h
  |true=>
   rw[agd a]at h;rcases ft.1 h with rfl|h
   .exact a
   exact adN h
theorem aog{b:Nat->Int}{a:List ay}{o:ay}(h:o∈a.take (kE b a)):isSet b o=true:=by have e:a.take (kE b a)=a.takeWhile (isSet b):=(List.prefix_iff_eq_take.1 (agc _)).symm;rw[e]at h;exact adN h
theorem aoh {z Q su:Nat} {R S:Value} {ar:List ay} {n:Nat} {U:List hV} {d W X:Nat} {F I:Nat->Prop} {D0:k8} {D:cZ} (h:iP b z Q su R S ar n U d W X F I D0 D) {gk B:Nat} {st:Nat->Int} (Y:q9 b gk B a st) (s:∀x∈ar,0<=x.op.id.2/\x.op.id.2<a):
  O 130 #[Z z,aa gk a B] b λe w'=>e=ad (A (kE st ar))/\J b w':=by
 have C:=h.bb;obtain⟨bw,bm,bq,ce,eN⟩:=fh C;have hlen:=h.len;obtain⟨f,c,rfl,kt,dM,aH⟩:=bz h.row;have dX:=ag aH;have E:=C;have p:=ag (aN h (aN Y s));have Bq:=p.o.2.1.JP;have VG:=p.o.2.1.JQ;go_enter func130,ntmps130;go_wp2_with fail
 go_loopw [12] (λi wr=>∃k,k<=ar.length/\i=A (k:Nat)/\Hq (∀j (r:j<ar.length),j<k->isSet st ar[j]=true)/\J b wr) (λi _=>ar.length-(intOf i).toNat)
 case atStart=>exact⟨0,b6 _,rfl,λ_ _ h=>absurd h (xK _),ca _ _⟩
 case round=>
  obtain⟨k,ej,rfl,u,m⟩:=hrel;by_cases t:k<ar.length
  .obtain⟨g,rfl⟩:=dX.o k t;obtain⟨L,M,aD,cY⟩:=eV.cells (dI p.o.1.row m) k t;obtain⟨lh,fH⟩:=p.o.2.2 ar[k] (dB t);obtain⟨x,v⟩:∃x,x=ar[k]:=⟨_,rfl⟩;rw[<-v]at L M aD cY lh fH;obtain⟨l,s⟩:∃l:Nat,x.op.id.2=(l:Int):=⟨x.op.id.2.toNat,by omega⟩;have Hr:l<a:=by omega
   have Vo:(0:Int)<=(l:Int):=by simp
   have L9:(l:Int)<(a:Int):=by omega
   have BA:=(p.o.2.1.ak m).cells l Hr;have al1:=(p.o.2.1.ak m).lt;have dG:g<wr.heap.size:=e7 wr _ L;have jY:(0:Int)<=(k:Int):=by simp
   have dK:(k:Int)<(ar.length:Int):=by omega
   have N:=ag v;clear v;rw[s]at M;have q:=ag m;have vH:=World.new_ne wr (K gk l) BA;have P:=show isSet st x=decide (x.op.cb<=st l) by unfold isSet;rw[s];rfl
   by_cases aw:st l<x.op.cb
   .have w:=ag (show isSet st ar[k]=false by rw[<-N.o,P];exact p2 (by omega));go_wp2_with fail
    go_region
    all_goals go_wp2
    all_goals go_ret
    all_goals exact⟨by rw[adL t u.o w.o];rfl,io (q.o.alloc q.o.size _) _⟩
   have w:=ag (show isSet st ar[k]=true by rw[<-N.o,P];exact nJ (by omega));have y:=ag (show ∀j (r:j<ar.length),j<k+1->isSet st ar[j]=true from λj r oP=>(by
    by_cases e:j=k
    .subst e;exact w.o
    exact u.o j r (by omega)))
   go_wp2_with fail
   go_region
   all_goals go_wp2
   all_goals go_roundw
   all_goals first
    |exact⟨k+1,by omega,by go_num,y.o,io (q.o.alloc q.o.size _) _⟩
    |(simp[intOf];omega)
  have iC:¬(k:Int)<(ar.length:Int):=by omega
  have q:=ag m;have c2':=((fh (bB E m)).2.2.1);have aoi:=aU (bB E m);have y:=ag (adM (st:=st) (ar:=ar) λj r=>u.o j r (by omega));go_wp2;go_ret
  exact⟨by rw[y.o];rfl,q.o⟩
end
section
open Go.RowKit Tryz
variable {a:List hV}{b d e:Nat}{c:cZ}
def pT (a:List hV) (base:Nat) (b:cZ):List hV:=match a.drop base with
 |[]=>[]
 |r::l=>{r with D:=b}::l
theorem Rt(a:List hV)(base:Nat)(b:cZ):(pT a base b).length=a.length-base:=by unfold pT;rw[<-ly];cases a.drop base<;>rfl
theorem aoj(a:List hV)(base:Nat)(b:cZ):(pT a base b).map (·.d)=(a.drop base).map (·.d):=by unfold pT;cases a.drop base<;>rfl
theorem aok(a:List hV)(base:Nat)(d:cZ)(b c:Nat):lE (pT a base d) b c=lE (a.drop base) b c:=by unfold pT lE;cases a.drop base<;>rfl
theorem adO{base:Nat}(b:base<a.length){r:hV}(h:r∈pT a base c):r={a[base]with D:=c}\/(r∈a.drop (base+1)):=by
 unfold pT at h;rw[Cb b]at h
 simp_all
theorem aol{base:Nat}(b:base<a.length)(h:0<(pT a base c).length):(pT a base c)[0].D=c:=by unfold pT;simp only[Cb b];rfl
theorem aom{base:Nat}(d:base<a.length)(h:b+1<(pT a base c).length):(pT a base c)[b+1]=a[base+(b+1)]'(by rw[Rt]at h;omega):=by have e:=h;rw[Rt]at e;unfold pT;simp only[Cb d,OD,OI];congr 1;omega
theorem adP{su G:Nat}(c:1<=b):∃a t,a=(su+G)/b/\t=(su+G)%b/\su+G=a*b+t/\t<b:=⟨_,_,rfl,rfl,by rw[K7];exact(Y5 _ _).symm,IC _ c⟩
theorem fJ.mapped {w:World} {R:Nat->Prop} {m:List (PId×fr)} {n:List (PId×eG)} (h:fJ b d R m n) (o:cW w e b d m n):fJ b d (λk=>R k/\∃i j,w.heap[k]?=some (.map i j)) m n:=by
 refine⟨h.ne,λf=>h.ro f.1,λf=>h.EA f.1,λp g a f=>⟨h.gQ p g a f,?_⟩,λp g k q a f=>⟨h.ja p g k q a f,?_⟩,λp g a f=>⟨h.hh p g a f,?_⟩⟩
 .have :=(o.hk p g).1;rw[f]at this;rcases this with r|⟨s,i,j,c,l⟩
  .simp_all
  cases c;exact⟨i,j,l.bb⟩
 .have :=(o.hk p g).2 k q;rw[f]at this;rcases this with r|⟨s,i,j,c,l⟩
  .simp_all
  cases c;exact⟨i,j,l.bb⟩
 have :=o.aO p g;rw[f]at this;rcases this with r|⟨s,i,j,c,l⟩
 .simp_all
 cases c;exact⟨i,j,l.bb⟩
def WI (a:Nat) (c d:Value) (b e:Nat) (k:Nat):Prop:=k=a\/c.ownBlock=some k\/d.ownBlock=some k\/k=b\/k=e
theorem iP.forget {w C:World} {N su:Nat} {c5 cl mj vr':Value} {y:List ay} {s:Nat} {F I:Nat->Prop} {D0:k8} {D:cZ} (h:iP w N b su c5 cl y y.length a s d e F I D0 D) (nS:a.length=(su+y.length)/b+1) {G base:Nat} (dH:G<=y.length) (Cl:base=(su+G)/b) (Y:base<a.length)
  (E:aR (WI N c5 cl a[base].b a[base].e) w C) (hblk:kP C N b ((su+G)%b) mj vr' s) (fl:eV 0 C mj (y.drop G)) (hp:o4 0 C vr' ((a.drop base).map (·.d))) (avT:mj.ownBlock=c5.ownBlock) (avv:vr'.ownBlock=cl.ownBlock)
  (iB:l1 a[base].D (((y.map (·.op)).drop (base*b-su)).take (G-(base*b-su))) c) (P:cW C a[base].d a[base].b a[base].e c.1 c.2) (al:fJ a[base].b a[base].e (λk=>lF F a d e k\/w.heap.size<=k) c.1 c.2):
  ∃aY,iP C N b ((su+G)%b) mj vr' (y.drop G) (y.drop G).length (pT a base c) s d e aY I (D0.1,D0.2++(y.take G).map (·.op)) D/\(pT a base c).length=((su+G)%b+(y.drop G).length)/b+1/\dp F aY w C:=by
 have mD:=h.rR;obtain⟨pF,t,eH,EP,WJ,jS⟩:=adP (su:=su) (G:=G) mD;have ez:=Cl.trans eH.symm;subst ez;have gW:=ly (i:=G) (l:=y);have Q:a[base]∈a:=by simp
 obtain⟨gX,fI,n0⟩:=h.sI _ Q;have uq:=h.maps;have nz:∀r∈a.drop (base+1),r∈a:=λr B=>tS B
 have zz:lE a d e=(a.take base).flatMap (λr=>[r.b,r.e])++([a[base].b,a[base].e]++((a.drop (base+1)).flatMap (λr=>[r.b,r.e])++[d,e])):=by
  have cR:a=a.take base++a[base]::a.drop (base+1):=by simp
  have W:=(kq (List.flatMap λr=>[r.b,r.e]) cR).trans (by rw[oL,jI]);unfold lE;rw[W,kr,kr]
 have adQ:=(nI.1 (zz▸uq)).2.1;have adR:=(nI.1 adQ).2.2;have adS:∀k∈(a.drop (base+1)).flatMap (λr=>[r.b,r.e])++[d,e],k≠a[base].b/\k≠a[base].e:=λk v=>⟨λg=>adR _ (by simp) k v g.symm,λg=>adR _ (by simp) k v g.symm⟩
 obtain⟨Bb,Bc,aon⟩:=gX.al;obtain⟨wY,wZ,aoo⟩:=gX.he;have aop:∀(k:Nat) (p:Array Value) (ty:TypeId) (f:Nat×Nat),w.heap[k]?=some (.cells p ty f)->ty≠204->ty≠210->ty≠101->C.heap[k]?=w.heap[k]?:=λk p ty f v dc cx pr=>E.other k (aU v) λz=>by
  rcases z with rfl|z|z|rfl|rfl
  .exact dc (cQ v h.bb)
  .obtain⟨cur,L⟩:=b0 h.row z;exact cx (cQ v L)
  .obtain⟨cur,L⟩:=b0 h.mem z;exact pr (cQ v L)
  .rw[aon.bb]at v;cases v
  rw[aoo.bb]at v;cases v
 have adT:∀(k:Nat) (R:Array MapEntry) (S:Nat),w.heap[k]?=some (.map R S)->k≠a[base].b->k≠a[base].e->C.heap[k]?=w.heap[k]?:=λk R S v dc cx=>E.other k (by exact(e8.1 v).1) λz=>by
  rcases z with rfl|z|z|rfl|rfl
  .have :=h.bb;unfold kP at this;rw[v]at this;cases this
  .obtain⟨cur,L⟩:=b0 h.row z;rw[v]at L;cases L
  .obtain⟨cur,L⟩:=b0 h.mem z;rw[v]at L;cases L
  .exact dc rfl
  exact cx rfl
 have z:∀k,WI N c5 cl a[base].b a[base].e k->F k:=λk z=>by
  rcases z with rfl|z|z|rfl|rfl
  .exact h.pG
  .exact h.qh k z
  .exact h.q5 k z
  .exact(h.cc _ Q).2.1
  exact(h.cc _ Q).2.2
 have AP:∀k∈lE a d e,k<w.heap.size:=λk v=>by
  rcases kQ.1 v with⟨r,B,rfl|rfl⟩|rfl|rfl
  .exact h.lt _ (h.cc r B).2.1
  .exact h.lt _ (h.cc r B).2.2
  .exact h.lt _ h.pH
  exact h.lt _ h.pI
 have Er:lE (pT a base c) d e=[a[base].b,a[base].e]++((a.drop (base+1)).flatMap (λr=>[r.b,r.e])++[d,e]):=by rw[aok];unfold lE;rw[Cb Y,jI,kr]
 have h3:∀k∈lE (pT a base c) d e,k∈lE a d e:=λk v=>by rw[zz];rw[Er]at v;exact Gc _ v
 have qr:∀k,lF F a d e k->lF (λk=>F k\/(w.heap.size<=k/\k<C.heap.size)) (pT a base c) d e k:=λk v=>⟨.inl v.1,λM=>v.2 (h3 k M)⟩
 have oA:∀k,k∈lE (pT a base c) d e->¬lF (λk=>F k\/(w.heap.size<=k/\k<C.heap.size)) (pT a base c) d e k:=λk v M=>M.2 v
 have l5:∀k,(lF F a d e k/\∃R S,w.heap[k]?=some (.map R S))->C.heap[k]?=w.heap[k]?:=λk v=>by obtain⟨dK,R,S,hm⟩:=v;exact adT k R S hm (λg=>dK.2 (kQ.2 (.inl ⟨_,Q,.inl g⟩))) (λg=>dK.2 (kQ.2 (.inl ⟨_,Q,.inr g⟩)))
 have adU:∀{κ ν:Type} {ua:κ->Value} {nW:ν->Value} {m:List (κ×ν)} {R:Array MapEntry} {S n:Nat},isMap ua nW w n m R S->n∈(a.drop (base+1)).flatMap (λr=>[r.b,r.e])++[d,e]->C.heap[n]?=w.heap[n]?:=λhm N=>adT _ _ _ hm.bb (adS _ N).1 (adS _ N).2
 have vb:∀{d1 bK W:Nat} {os:List (PId×fr)} {bk:List (PId×eG)},cW w d1 bK W os bk->fJ bK W (lF F a d e) os bk->bK∈(a.drop (base+1)).flatMap (λr=>[r.b,r.e])++[d,e]->W∈(a.drop (base+1)).flatMap (λr=>[r.b,r.e])++[d,e]->cW C d1 bK W os bk:=λ{d1 bK W os bk} P al m1 m2=>by obtain⟨_,_,nu⟩:=P.al;obtain⟨_,_,pf⟩:=P.he;exact P.ke (al.mapped P) (aop _ _ _ _ P.ao (by decide) (by decide) (by decide)) (adU nu m1) (adU pf m2) l5
 have aoq:(y.map (·.op)).take y.length=(y.take G).map (·.op)++((y.drop G).map (·.op)).take (y.drop G).length:=by rw[<-c2 (f:=λo:ay=>o.op),wv,<-c2 (f:=λo:ay=>o.op),wv,<-ga,za]
 have Lj:∀m,(y.map (·.op)).take (G+m)=(y.take G).map (·.op)++((y.drop G).map (·.op)).take m:=λm=>by rw[Y4,Cd,afT]
 refine⟨λk=>F k\/(w.heap.size<=k/\k<C.heap.size),⟨hblk,fl,λo hS=>(h.chg o (tS hS)).fW (λk v=>E.other k (h.cI k v) λM=>h.e0 k v (z k M)) (λ_ x=>x),by rw[aoj];exact hp,h.rR,h.sH,IC _ mD,bW _,by rw[gW];have :=h.len;omega,λr B=> ?_,λj aB=> ?_,vb h.q h.own (by simp) (by simp),h.own.mono qr (oA _ (kQ.2 (.inr (.inl rfl)))) (oA _ (kQ.2 (.inr (.inr rfl)))),h.kj,?_,by rw[Er];exact adQ,.inl h.pG,λk v=>.inl (h.qh k (avT▸v)),λk v=>.inl (h.q5 k (avv▸v)),λr B=> ?_,.inl h.fd,.inl h.pH,.inl h.pI,λk v=>v.elim (λx=>c0 (h.lt k x) E.size) (·.2),λk c6 hF=>hF.elim (h.e0 k c6) λx=>by have :=h.cI k c6;omega,λk c6=>c0 (h.cI k c6) E.size⟩,?_,⟨E.os,E.tape,E.output,E.size,λk v hF=>E.other k v λM=>hF (z k M),λk v=>v.imp id (·.1)⟩⟩
 .rcases adO Y B with rfl|B
  .refine⟨P,(al.there P).mono (λk v=> ?_) (oA _ (by rw[Er];simp)) (oA _ (by rw[Er];simp)),n0.mx iB⟩;rcases v.1 with dK|dK
   .exact qr k dK
   exact⟨.inr ⟨dK,v.2⟩,λM=>by have :=AP k (h3 k M);omega⟩
  obtain⟨u,n,p⟩:=h.sI r (nz r B);have m1:r.b∈(a.drop (base+1)).flatMap (λr=>[r.b,r.e]):=lg.2 ⟨r,B,by simp⟩;have m2:r.e∈(a.drop (base+1)).flatMap (λr=>[r.b,r.e]):=lg.2 ⟨r,B,by simp⟩;exact⟨vb u n (p3 _ m1) (p3 _ m2),n.mono qr (oA _ (by rw[Er];exact Gc _ (p3 _ m1))) (oA _ (by rw[Er];exact Gc _ (p3 _ m2))),p⟩
 .cases j with
  |zero=>rw[aol Y aB,SB,Nat.zero_sub,Ga];show l1 D0.1 (D0.2++(y.take G).map (·.op)++[]) c;have U:=(h.mx base Y).append iB;rw[<-Y4,show base*b-su+(G-(base*b-su))=G+0 by omega,Lj,Ga]at U;rw[kr];exact U
  |succ j=>
   have pJ:=aB;rw[Rt]at pJ;rw[aom Y aB];have U:=h.mx (base+(j+1)) (by omega);have g:(base+(j+1))*b-su=G+((j+1)*b-(su+G)%b):=by have h2:b<=(j+1)*b:=Nat.le_mul_of_pos_left b (by omega);rw[uW];generalize(j+1)*b=X at *;omega
   rw[g,Lj]at U;show l1 D0.1 (D0.2++(y.take G).map (·.op)++_) _;rw[kr];exact U
 .have U:=h.did;rw[aoq]at U;show l1 D0.1 (D0.2++(y.take G).map (·.op)++_) _;rw[kr];exact U
 .rcases adO Y B with rfl|B
  .exact⟨.inl (h.cc _ Q).1,.inl (h.cc _ Q).2.1,.inl (h.cc _ Q).2.2⟩
  exact⟨.inl (h.cc r (nz r B)).1,.inl (h.cc r (nz r B)).2.1,.inl (h.cc r (nz r B)).2.2⟩
 rw[Rt,nS,gW,<-EP];have g:su+y.length=base*b+(t+(y.length-G)):=by omega
 rw[g,K7,Nat.mul_add_div (by omega)];generalize(t+(y.length-G))/b=X;omega
end
section
open Go.RowKit Tryz
attribute [local go_sem ↓] Go.wp_at_zero Go.wp_at_succ
variable {a:List ay}{b:List hV}{c h j k l m n s w:Nat}{d i:Nat->Prop}{e q:Value}{f:cZ}{r u v:World}
def H0 (h b:Nat) (a:List ay) (d i j:Nat) (F I:Nat->Prop) (D0:k8) (D:cZ) (G:Nat) (w c:World):Prop:=∃e k l f g,iP c h b e k l (a.drop G) (a.drop G).length f d i j g I (D0.1,D0.2++(a.take G).map (·.op)) D/\f.length=(e+(a.drop G).length)/b+1/\dp F g w c
theorem aor(a:List hV)(b:Nat):((a.map (·.d)).flatMap iM).drop (b*1)=((a.drop b).map (·.d)).flatMap iM:=by
 have e:∀l:List Nat,l.flatMap iM=l.map λk=>Z k:=λl=>by unfold iM;exact List.map_eq_flatMap.symm
 simp_all
theorem WK(a:List ay)(G:Nat):(a.flatMap ec).drop (G*4)=(a.drop G).flatMap ec:=by
 by_cases h:G<=a.length
 .have e:a.flatMap ec=(a.take G).flatMap ec++(a.drop G).flatMap ec:=by rw[<-oL,za]
  have b:((a.take G).flatMap ec).length=G*4:=by rw[rB ec 4 (λ_=>rfl),gU,KX h]
  simp_all
 rw[OB (show a.length<=G by omega),OB (by rw[rB ec 4 (λ_=>rfl)];omega)];rfl
theorem aos(l:List Nat):∀u∈l.flatMap iM,u.oneCell'=true:=λu a=>by obtain⟨x,_,b⟩:=lg.1 a;exact Qh x u b
theorem WL(l:List ay):∀u∈l.flatMap ec,u.oneCell'=true:=λu a=>by obtain⟨x,_,b⟩:=lg.1 a;exact CW x u b
theorem aot {w:World} (d c:Nat):O 134 #[Z d,.slice none 0 c] w λe w'=>(∃r,e=ad r)/\w'=w:=by
 go_enter func134,ntmps134;go_wp2;refine KZ 1 ?_;rw[K0];go_wp2;go_end0
 simp
def DoB (w:World) (d b e:Nat) (R:Nat->Prop) (D:cZ) (l:List pC) (f:Ending) (c:World):Prop:=(∃r,f=ad r)/\(∃a,l1 D l a/\cW c d b e a.1 a.2/\fJ b e R a.1 a.2)/\aR (λk=>k=b\/k=e) w c
theorem iP.WM {w:World} {D:List ay} {D0:k8} {z:Nat} (p:iP w l m n q e D z b s j k d i D0 f) (I:aR (λh=>h=l\/e.ownBlock=some h) w r) {base:Nat} (N:base<b.length) {G:Nat} (hkG:h<=G) (dH:G<=D.length) (L:h<=10000) {a:Option Addr} {c:Nat} (aE:(a=none/\G=h)\/∃g o,a=some (K g o)/\G-h<=c/\(G=h\/(q.ownBlock=some g/\o=h*4))/\o<=100000):
  O 134 #[Z (b[base].d),.slice a (G-h) c] r.drew λv w'=>DoB r.drew b[base].d b[base].b b[base].e (λu=>lF d b j k u\/r.drew.heap.size<=u) b[base].D (((D.map (·.op)).drop h).take (G-h)) v w':=by
 obtain⟨gX,P,n0⟩:=p.sI _ (dB N);have z6:∀h,(h=l\/e.ownBlock=some h)->∃c t B,w.heap[h]?=some (.cells c t B)/\t≠174:=λh L=>by
  rcases L with rfl|L
  .exact⟨_,_,_,p.bb,by decide⟩
  obtain⟨cur,W⟩:=b0 p.mem L;exact⟨_,_,_,W,by decide⟩
 have q1:=(gX.kept I z6).ak (gb r);have cw:=I.size;have X:fJ b[base].b b[base].e (λu=>lF d b j k u\/r.drew.heap.size<=u) b[base].D.1 b[base].D.2:=P.mono (λu E=>.inl E) (λM=>M.elim P.ro λx=>by have :=p.lt _ (p.cc _ (dB N)).2.1;have :r.drew.heap.size=r.heap.size:=rfl;omega) (λM=>M.elim P.EA λx=>by have :=p.lt _ (p.cc _ (dB N)).2.2;have :r.drew.heap.size=r.heap.size:=rfl;omega);have Q:(((D.map (·.op)).drop h).take (G-h)).length=G-h:=by simp;omega
 have hlen:=p.len;rcases aE with⟨rfl,hGk⟩|⟨g,o,rfl,W,Ml,al⟩
 .have S:G-h=0:=by omega
  rw[S];refine(aot _ _).mono ?_;rintro v w' ⟨he,rfl⟩;exact⟨he,⟨_,rfl,q1,X⟩,aR.cL (ca _ _)⟩
 have :=abf (w:=r.drew) (R:=λu=>lF d b j k u\/r.drew.heap.size<=u) q1 X n0 (λu E=>.inr E) g o c (((D.map (·.op)).drop h).take (G-h)) (by omega) (by rw[Q];omega) al (λy hi=>by
  rw[Q]at hi;rcases Ml with M|⟨aq,rfl⟩
  .omega
  obtain⟨dQ,dL,rfl,_,_,aH⟩:=bz p.row;obtain⟨Y,rfl⟩:=aH 0 (by omega);obtain rfl:Y=g:=by injection aq
  have fl:eV 0 r.drew (aa Y D.length dL) D:=cu p.row λC hbk=>by
   obtain⟨cur,U⟩:=b0 p.row hbk;refine I.other C (aU U) λF=> ?_
   rcases F with rfl|F
   .exact absurd (cQ U p.bb) (by decide)
   obtain⟨hE,cD⟩:=b0 p.mem F;exact absurd (cQ U cD) (by decide)
  obtain⟨S,av,aD,cY⟩:=eV.cells fl (h+y) (by omega);rw[show h*4+y*4=(h+y)*4 by omega];simp only[K1,OI,pn];exact⟨S,av,aD,_,cY,((p.chg D[h+y] (dB _)).fW (w':=r.drew) (λu E=>I.other u (p.cI u E) λF=>p.e0 u E (F.elim (λv=>v▸p.pG) (p.q5 u))) (λ_ x=>x)).chg⟩)
 rw[Q]at this;exact this
theorem WN{w q y D0}(p:iP w h j k e (aa c (q.map (·.d)).length l) a m q n s y d i D0 f){base:Nat}(z:base<q.length):¬(h=q[base].b\/h=q[base].e)/\¬(c=q[base].b\/c=q[base].e):=by
 obtain⟨u,_,_⟩:=p.sI _ (dB z);obtain⟨B,C,v⟩:=u.al;obtain⟨D,E,x⟩:=u.he;have r:=p.bb;unfold kP at r;obtain⟨F,t⟩:=b0 p.mem (g:=c) rfl;refine⟨λo=> ?_,λo=> ?_⟩
 .rcases o with o|o
  .rw[o,v.bb]at r;cases r
  rw[o,x.bb]at r;cases r
 rcases o with o|o
 .rw[o,v.bb]at t;cases t
 rw[o,x.bb]at t;cases t
theorem WO {D0:k8} (g:iP r c h j e q a k b l m n d i D0 f) (x:aR (λo=>o=c\/q.ownBlock=some o) r u) {base:Nat} (z:base<b.length) (B:aR (λo=>o=b[base].b\/o=b[base].e) u.drew v):eV 0 v e a:=cu g.row λp C=>by
 obtain⟨y,_,_⟩:=g.sI _ (dB z);obtain⟨I,L,D⟩:=y.al;obtain⟨M,N,E⟩:=y.he;obtain⟨P,t⟩:=b0 g.row C;rw[B.other p (c0 (aU t) x.size) (λs=>by
  rcases s with rfl|rfl
  .rw[D.bb]at t;cases t
  rw[E.bb]at t;cases t)]
 refine x.other p (aU t) λw=> ?_
 rcases w with rfl|w
 .exact absurd (cQ t g.bb) (by decide)
 obtain⟨Q,F⟩:=b0 g.mem w;exact absurd (cQ t F) (by decide)
theorem WP {z W:World} {Q:Nat} {D0:k8} {D:cZ} (B:iP z h c j q (aa k (b.map (·.d)).length l) a a.length b s w Q d i D0 D) (nS:b.length=(j+a.length)/c+1) {base G t:Nat} (dH:G<=a.length) (Cl:base=(j+G)/c) (EP:t=(j+G)%c) (N:base<b.length)
  (aI:aR (λo=>o=h\/(aa k (b.map (·.d)).length l).ownBlock=some o) z W) (jD:aR (λo=>o=b[base].b\/o=b[base].e) W.drew r) {cs:Array Value} (qB:u.heap[h]?=some (.cells cs 204)) (aP:o4 0 r (aa k m n) ((b.drop base).map (·.d))) (Eg:eV 0 r q a) {P:Value} (fl:eV 0 u P (a.drop G)) (R:aR (λo=>q.ownBlock=some o) r u) (aO:P.ownBlock=q.ownBlock) (S:aR (λo=>o=h) u v) (FC:kP v h c t P (aa k m n) s)
  (iB:l1 b[base].D (((a.map (·.op)).drop (base*c-j)).take (G-(base*c-j))) f) (aw:cW r b[base].d b[base].b b[base].e f.1 f.2) (al:fJ b[base].b b[base].e (λC=>lF d b w Q C\/W.drew.heap.size<=C) f.1 f.2):H0 h c a s w Q d i D0 D G z v:=by
 have b1:=aI.size;have ao:W.drew.heap.size=W.heap.size:=rfl;obtain⟨f1,f2,f3⟩:=B.cc _ (dB N);have hy:∀(o:Nat) (p:Array Value) (M:TypeId) (y:Nat×Nat),r.heap[o]?=some (.cells p M y)->M≠210->u.heap[o]?=r.heap[o]?:=λo p M y I U=>R.other o (aU I) λX=>by obtain⟨Y,L⟩:=b0 Eg X;exact U (cQ I L)
 have vJ:∀(o:Nat) (p:Array Value) (M:TypeId) (y:Nat×Nat),u.heap[o]?=some (.cells p M y)->M≠204->v.heap[o]?=u.heap[o]?:=λo p M y I U=>S.other o (aU I) λX=>by rw[X]at I;exact U (cQ I qB)
 have hq9:=(aw.kept R λo I=>by
  obtain⟨Y,L⟩:=b0 Eg I;exact⟨_,_,_,L,by decide⟩).kept S λo I=>by
  rw[I];exact⟨_,_,_,qB,by decide⟩
 have aou:eV 0 v P (a.drop G):=cu fl λg aq=>by obtain⟨Y,L⟩:=b0 fl aq;exact vJ g _ _ _ L (by decide)
 have aov:o4 0 v (aa k m n) ((b.drop base).map (·.d)):=cu aP λg aq=>by obtain⟨Y,L⟩:=b0 aP aq;have H2:=hy g _ _ _ L (by decide);exact(vJ g _ _ _ (H2.trans L) (by decide)).trans H2
 have cv:aR (WI h q (aa k (b.map (·.d)).length l) b[base].b b[base].e) z v:=((((aI.mono λo I=>I.elim .inl λx=>.inr (.inr (.inl x))).trans (aR.cL (gb W))).trans (jD.mono λo I=>I.elim (λx=>.inr (.inr (.inr (.inl x)))) λx=>.inr (.inr (.inr (.inr x))))).trans (R.mono λo I=>.inr (.inl I))).trans (S.mono λo I=>.inl I);rw[EP]at FC;obtain⟨aY,E,F,p⟩:=B.forget nS dH Cl N cv FC aou aov aO rfl iB hq9 (al.mono (λo I=>I.imp id λx=>by omega) (λaz=>az.elim (λx=>x.2 (kQ.2 (.inl ⟨_,dB N,.inl rfl⟩))) λx=>by have :=B.lt _ f2;omega) (λaz=>az.elim (λx=>x.2 (kQ.2 (.inl ⟨_,dB N,.inr rfl⟩))) λx=>by have :=B.lt _ f3;omega));exact⟨_,_,_,_,aY,E,F,p⟩
theorem H0.before{w b c e f d g i F I D0 D G}{a:World}(h:H0 c e f d g i F I D0 D G w b)(j:J a w):H0 c e f d g i F I D0 D G a b:=by obtain⟨k,l,m,n,o,p,q,r⟩:=h;exact⟨k,l,m,n,o,p,q,r.before j⟩
theorem aow {w:World} {su:Nat} {y:List ay} {be:Nat} {I:Nat->Prop} {D0:k8} (h:iP w j k su e q y y.length b l s be d I D0 f) (nS:b.length=(su+y.length)/k+1) {gk gJ:Nat} {st:Nat->Int} (hk:q9 w gk gJ n st) (eM:∀x∈y,0<=x.op.id.2/\x.op.id.2<n):
  O 81 #[Z j,aa gk n gJ] w λp w'=>p=ad (A (kE st y))/\H0 j k y l s be d I D0 f (kE st y) w w':=by
 have hlen:=h.len;have hG:=h.rR;have gx:=h.sH;have yk:=h.tt;have vw:=ag (aoh h hk eM);have z7:=aof st y;obtain⟨G,hGe⟩:∃G,G=kE st y:=⟨_,rfl⟩;rw[<-hGe]at vw z7⊢;clear hGe hk eM;obtain⟨base,t,Cl,EP,WJ,jS⟩:=adP (su:=su) (G:=G) hG;have Y:base<b.length:=by have :=atK (c:=k) (show su+G<=su+y.length by omega);omega
 have qR:b.length<=400:=by rw[nS];have :=SX (su+y.length) k;omega
 have Na:base*k-su<=G:=by omega
 have CZ:=ag (λW (eH:J w W)=>US (h.ak eH).bb G (by omega) hG gx (by omega));rw[<-Cl]at CZ;have C2:=ag (λW (eH:J w W)=>Qi (h.ak eH).bb base (by omega) gx (by omega));obtain⟨uM,uN⟩:∃uM,uM=base*k-su:=⟨_,rfl⟩;rw[<-uN]at Na C2;obtain⟨ET,tu,rfl,Qj,U5,C6⟩:=bz h.mem;unfold maxLen at U5;rw[c2]at Qj C6;obtain⟨lJ,rfl⟩:=C6 0 (by omega);have aT:=ag (aN h nS);have P:=ag (aN Cl (aN EP (aN WJ (aN jS uN))));clear h nS C6 Cl EP WJ jS uN;go_enter func81,ntmps81;go_wp2_with fail
 refine vw.o.mono ?_;rintro p w1 ⟨rfl,fb⟩;have aJ:=ag fb;clear fb;go_wp2_with fail
 refine(CZ.o w1 aJ.o).mono ?_;rintro p w2 ⟨rfl,bo⟩;have bF:=ag (bp aJ.o bo);clear bo;go_wp2_with fail
 refine(C2.o w2 bF.o).mono ?_;rintro p w3 ⟨rfl,bu⟩;have cj:=ag (bp bF.o bu);clear bu;have D:=ag (aT.o.1.ak cj.o);have wD:=ag (ale D.o.mem (aos _) (m:=base) (by rw[c2];omega));rw[c2]at wD;have zW:=D.o.bb;unfold kP at zW;obtain⟨bw,bm,bq,ce,eN⟩:=fh zW;rw[c2]at ce;have Hk:=aU zW;have eQ:=ag zW;clear zW vw CZ C2;go_wp2_with fail
 refine wD.o.mono ?_;rintro p w4 ⟨v4,rfl,hM,Bf,rS⟩;have Ru:o4 0 w4 v4 ((b.drop base).map (·.d)):=by unfold o4;rw[aor]at hM;rw[c2,ly];omega
 obtain⟨a4,C,rfl,xg,yo,yp⟩:=bz Ru;obtain⟨B,zk⟩:∃B,B=b.length-base:=⟨_,rfl⟩;have gW:((b.drop base).map (·.d)).length=B:=by rw[c2,ly,zk]
 have auK:0<B:=by omega
 have auL:(0:Int)<(B:Int):=by omega
 obtain⟨z,rfl⟩:=yp 0 (by omega);obtain rfl:z=lJ:=by injection rS
 rw[gW]at xg;unfold maxLen at yo;have fT:=UT Ru 0 (by omega);rw[pn,OI]at fT;have e00:b[base+0]'(by omega)=b[base]:=rfl;rw[e00]at fT;have bI:j≠z:=λp=>by obtain⟨cur,hc⟩:=b0 D.o.mem (g:=z) rfl;rw[<-p]at hc;exact absurd (cQ hc eQ.o) (by decide)
 have H3:=(Bf.other j Hk (λp=>bI (by injection p with p;exact p.symm))).trans eQ.o;have xb:=cV H3 3;have x43:=(fh H3).2.2.2.1;have H4:=Qg (u:=aa z B C) H3;have Bt:aR (λv=>v=j\/(aa z (b.map (·.d)).length tu).ownBlock=some v) w3 (w4.setCell (K j 3) (aa z B C)):=(Bf.mono λv hk=>.inr hk).trans (aR.it _ (.inl rfl));have Q:(w4.setCell (K j 3) (aa z B C)).cell? (H z)=some (Z (b[base].d)):=by
  simp only[World.cell?];rw[dE (eE bI)]
  assumption
 have mV:=ag (show o4 0 (w4.setCell (K j 3) (aa z B C)) (aa z B C) ((b.drop base).map (·.d)) from by rw[<-gW];exact cu Ru λg aq=>dE (λp=>by cases aq;exact bI p.symm));have sM:=ag H4;have un:=ag Bt;have WQ:=aU H3;rw[gW];have HNL:=ag zk;clear hM Bf rS Ru yp fT e00 bw bm bq ce eN Hk wD zk gW;obtain⟨jO,co,Eg,nw,Qq,Cp⟩:=bz D.o.row;subst Eg;unfold maxLen at Qq;obtain⟨d0,d1,d2,d3,d4⟩:=fh H4;have Dz:=aU H4;have H5:=cV H4;have ho0:(0:Int)<=(uM:Int):=by simp
 have o8:(uM:Int)<=(G:Int):=by omega
 have js:(G:Int)<=(co:Int):=by omega
 obtain⟨R,rfl⟩|⟨rfl,IP,aox⟩:(∃R,jO=some (H R))\/(jO=none/\y=[]/\co=0):=by
  rcases D.o.row.2 with⟨p,aD⟩|⟨g,cap,cur,p,_⟩
  .injection p with av _ cY;exact .inr ⟨av,age.1 aD,cY⟩
  injection p with av _ _;exact .inl ⟨g,av⟩
 .by_cases aZ:co=uM
  .subst aZ;have q3:=ag (D.o.WM un.o Y Na z7 (by omega) (a:=some (H R)) (c:=0) (.inr ⟨R,0,rfl,by omega,.inl (by omega),by omega⟩));go_wp2_with fail
   obtain⟨E,ow⟩:∃E,E=w4.setCell (K j 3) (aa z B C):=⟨_,rfl⟩;rw[<-ow]at q3 sM un mV d0 d1 d2 d3 d4 Dz H5 Q⊢;clear ow x43 xb WQ H3 H4 Bt;have FE:=e7 _ _ Q;have F:=WN D.o Y;go_region_held3 (λW=>W.cell? (K j 3)=some (aa z B C)/\W.cell? (H z)=some (Z (b[base].d))/\W.cell? (K j 2)=some (aa R y.length co)) (first |exact FF.o|exact⟨d3,Q,d2⟩)
    (first |(go_at_call 134;refine q3.o.mono ?_;rintro p w6 ⟨⟨r,rfl⟩,⟨FD,iB,zE,zF⟩,L⟩;have FF:=ag (aN (L.cell (w:=E.drew) F.1 d3) (aN (L.cell (w:=E.drew) F.2 Q) (L.cell (w:=E.drew) F.1 d2)));have z8:=ag (aN iB (aN zE zF));have U:=ag L;clear iB zE zF L))
   have X:=(U.o.other j Dz F.1).trans sM.o;have pd:=ag (show eV 0 w6 (aa R y.length co) y from WO D.o un.o Y U.o);have CE:=ag (show o4 0 w6 (aa z B C) ((b.drop base).map (·.d)) from cu mV.o λg aq=>(by cases aq;exact U.o.other _ FE F.2));have FG:=ag (U9 pd.o (WL _) (m:=G) z7);obtain⟨f0,f1,f2,f3,f4⟩:=fh X;have oU:=aU X;have tB:=ag X;clear X d0 d1 d2 d3 d4 Dz H5 Q FE;go_wp2_with fail
   refine FG.o.mono ?_;rintro p w7 ⟨v7,rfl,z9,uL,FH⟩;have Aa:eV 0 w7 v7 (y.drop G):=by unfold eV;rw[WK]at z9;rw[ly];exact z9
   obtain⟨wL,BS,rfl,Nb,Nc,Nd⟩:=bz Aa;obtain⟨pN,vH⟩:∃pN,pN=(y.drop G).length:=⟨_,rfl⟩;have WR:j≠R:=λp=>by obtain⟨cur,hc⟩:=b0 pd.o (g:=R) rfl;rw[<-p]at hc;exact absurd (cQ hc tB.o) (by decide)
   have M:=(uL.other j oU (λp=>WR (by injection p with p;exact p.symm))).trans tB.o;have N:=Qf (u:=.slice wL (y.drop G).length BS) M;have dX:=ag (λ(w9:World) (Dy:aR (λv=>v=j) w7 w9) (FC:kP w9 j k t (.slice wL (y.drop G).length BS) (aa z B C) l)=>(WP D.o aT.o.2 z7 P.o.1 P.o.2.1 Y un.o U.o M CE.o pd.o Aa uL FH Dy FC (P.o.2.2.2.2▸z8.o.1) z8.o.2.1 z8.o.2.2).before cj.o);rw[<-vH]at N dX Nb⊢;have z72:=cV M 2;obtain⟨_,_,x72,_,_⟩:=fh M;have adV:=aU M;obtain⟨y0,y1,_,_,_⟩:=fh N;have hz8:=cV N 1;have FA:=aU N;have Nf:=ag N;have HNK:=ag vH;unfold maxLen at Nc;clear vH z9 uL FH Aa Nd f0 f1 f2 f3 f4 oU FG;have adW:IntKind.i64.wrap ((su:Int)+(G:Int))=(su:Int)+(G:Int):=mN _ (by omega);have pp:((su:Int)+(G:Int))%(k:Int)=(t:Int):=by rw[P.o.2.1];simp
   have hm:((su:Int)+(G:Int)).tmod (k:Int)=((su:Int)+(G:Int))%(k:Int):=S7 (by omega);have jS:=P.o.2.2.2.1;have hw:IntKind.i64.wrap (((su:Int)+(G:Int))%(k:Int))=((su:Int)+(G:Int))%(k:Int):=by rw[pp];exact mN _ (by omega)
   have oW:¬(k=0):=by omega
   have H6:=ag pp;clear pp;go_wp2_with fail
   go_region
   all_goals go_wp2
   all_goals go_ret
   all_goals(
    refine⟨rfl,dX.o _ ?_ ?_⟩
    .first
      |exact((aR.it (S:=λv=>v=j) (g:=j) (o:=2) _ rfl).trans (aR.cL (gb _))).trans (aR.it (S:=λv=>v=j) (g:=j) (o:=1) _ rfl)
      |exact((aR.it (S:=λv=>v=j) (g:=j) (o:=2) _ rfl).trans (aR.it (S:=λv=>v=j) (g:=j) (o:=1) _ rfl)).trans (aR.cL (gb _))
    have xx:=setRow (i:=1) (u:=A (((su:Int)+(G:Int))%(k:Int))) Nf.o;rw[H6.o]at xx⊢;unfold kP;simp at xx;exact xx)
  have q3:=ag (D.o.WM un.o Y Na z7 (by omega) (a:=some (K R (uM*4))) (c:=co-uM) (.inr ⟨R,uM*4,rfl,by omega,.inr ⟨rfl,rfl⟩,by omega⟩));go_wp2_with fail
  obtain⟨E,ow⟩:∃E,E=w4.setCell (K j 3) (aa z B C):=⟨_,rfl⟩;rw[<-ow]at q3 sM un mV d0 d1 d2 d3 d4 Dz H5 Q⊢;clear ow x43 xb WQ H3 H4 Bt;have FE:=e7 _ _ Q;have F:=WN D.o Y;go_region_held3 (λW=>W.cell? (K j 3)=some (aa z B C)/\W.cell? (H z)=some (Z (b[base].d))/\W.cell? (K j 2)=some (aa R y.length co)) (first |exact FF.o|exact⟨d3,Q,d2⟩)
   (first |(go_at_call 134;refine q3.o.mono ?_;rintro p w6 ⟨⟨r,rfl⟩,⟨FD,iB,zE,zF⟩,L⟩;have FF:=ag (aN (L.cell (w:=E.drew) F.1 d3) (aN (L.cell (w:=E.drew) F.2 Q) (L.cell (w:=E.drew) F.1 d2)));have z8:=ag (aN iB (aN zE zF));have U:=ag L;clear iB zE zF L))
  have X:=(U.o.other j Dz F.1).trans sM.o;have pd:=ag (show eV 0 w6 (aa R y.length co) y from WO D.o un.o Y U.o);have CE:=ag (show o4 0 w6 (aa z B C) ((b.drop base).map (·.d)) from cu mV.o λg aq=>(by cases aq;exact U.o.other _ FE F.2));have FG:=ag (U9 pd.o (WL _) (m:=G) z7);obtain⟨f0,f1,f2,f3,f4⟩:=fh X;have oU:=aU X;have tB:=ag X;clear X d0 d1 d2 d3 d4 Dz H5 Q FE;go_wp2_with fail
  refine FG.o.mono ?_;rintro p w7 ⟨v7,rfl,z9,uL,FH⟩;have Aa:eV 0 w7 v7 (y.drop G):=by unfold eV;rw[WK]at z9;rw[ly];exact z9
  obtain⟨wL,BS,rfl,Nb,Nc,Nd⟩:=bz Aa;obtain⟨pN,vH⟩:∃pN,pN=(y.drop G).length:=⟨_,rfl⟩;have WR:j≠R:=λp=>by obtain⟨cur,hc⟩:=b0 pd.o (g:=R) rfl;rw[<-p]at hc;exact absurd (cQ hc tB.o) (by decide)
  have M:=(uL.other j oU (λp=>WR (by injection p with p;exact p.symm))).trans tB.o;have N:=Qf (u:=.slice wL (y.drop G).length BS) M;have dX:=ag (λ(w9:World) (Dy:aR (λv=>v=j) w7 w9) (FC:kP w9 j k t (.slice wL (y.drop G).length BS) (aa z B C) l)=>(WP D.o aT.o.2 z7 P.o.1 P.o.2.1 Y un.o U.o M CE.o pd.o Aa uL FH Dy FC (P.o.2.2.2.2▸z8.o.1) z8.o.2.1 z8.o.2.2).before cj.o);rw[<-vH]at N dX Nb⊢;have z72:=cV M 2;obtain⟨_,_,x72,_,_⟩:=fh M;have adV:=aU M;obtain⟨y0,y1,_,_,_⟩:=fh N;have hz8:=cV N 1;have FA:=aU N;have Nf:=ag N;have HNK:=ag vH;unfold maxLen at Nc;clear vH z9 uL FH Aa Nd f0 f1 f2 f3 f4 oU FG;have adW:IntKind.i64.wrap ((su:Int)+(G:Int))=(su:Int)+(G:Int):=mN _ (by omega);have pp:((su:Int)+(G:Int))%(k:Int)=(t:Int):=by rw[P.o.2.1];simp
  have hm:((su:Int)+(G:Int)).tmod (k:Int)=((su:Int)+(G:Int))%(k:Int):=S7 (by omega);have jS:=P.o.2.2.2.1;have hw:IntKind.i64.wrap (((su:Int)+(G:Int))%(k:Int))=((su:Int)+(G:Int))%(k:Int):=by rw[pp];exact mN _ (by omega)
  have oW:¬(k=0):=by omega
  have H6:=ag pp;clear pp;go_wp2_with fail
  go_region
  all_goals go_wp2
  all_goals go_ret
  all_goals(
   refine⟨rfl,dX.o _ ?_ ?_⟩
   .first
     |exact((aR.it (S:=λv=>v=j) (g:=j) (o:=2) _ rfl).trans (aR.cL (gb _))).trans (aR.it (S:=λv=>v=j) (g:=j) (o:=1) _ rfl)
     |exact((aR.it (S:=λv=>v=j) (g:=j) (o:=2) _ rfl).trans (aR.it (S:=λv=>v=j) (g:=j) (o:=1) _ rfl)).trans (aR.cL (gb _))
   have xx:=setRow (i:=1) (u:=A (((su:Int)+(G:Int))%(k:Int))) Nf.o;rw[H6.o]at xx⊢;unfold kP;simp at xx;exact xx)
 subst IP;obtain rfl:G=0:=af9.1 z7;obtain rfl:uM=0:=af9.1 Na;subst aox;have q3:=ag (D.o.WM un.o Y Na z7 (by omega) (a:=none) (c:=0) (.inl ⟨rfl,rfl⟩));go_wp2_with fail
 obtain⟨E,ow⟩:∃E,E=w4.setCell (K j 3) (aa z B C):=⟨_,rfl⟩;rw[<-ow]at q3 sM un mV d0 d1 d2 d3 d4 Dz H5 Q⊢;clear ow x43 xb WQ H3 H4 Bt;have FE:=e7 _ _ Q;have F:=WN D.o Y;go_region_held3 (λW=>W.cell? (K j 3)=some (aa z B C)/\W.cell? (H z)=some (Z (b[base].d))/\W.cell? (K j 2)=some (.slice none 0 0)) (first |exact FF.o|exact⟨d3,Q,d2⟩)
  (first |(go_at_call 134;refine q3.o.mono ?_;rintro p w6 ⟨⟨r,rfl⟩,⟨FD,iB,zE,zF⟩,L⟩;have FF:=ag (aN (L.cell (w:=E.drew) F.1 d3) (aN (L.cell (w:=E.drew) F.2 Q) (L.cell (w:=E.drew) F.1 d2)));have z8:=ag (aN iB (aN zE zF));have U:=ag L;clear iB zE zF L))
 have X:w6.heap[j]?=some (.cells #[A k,A su,.slice none 0 0,aa z B C,Z l] 204):=(U.o.other j Dz F.1).trans sM.o;have pd:=ag (show eV 0 w6 (.slice none 0 0) ([]:List ay) from WO D.o un.o Y U.o);have CE:=ag (show o4 0 w6 (aa z B C) ((b.drop base).map (·.d)) from cu mV.o λg aq=>(by cases aq;exact U.o.other _ FE F.2));have FG:=ag (U9 pd.o (WL _) (m:=0) z7);obtain⟨f0,f1,f2,f3,f4⟩:=fh X;have oU:=aU X;have tB:=ag X;clear X d0 d1 d2 d3 d4 Dz H5 Q FE;go_wp2_with fail
 refine FG.o.mono ?_;rintro p w7 ⟨v7,rfl,z9,uL,FH⟩;have Aa:eV 0 w7 v7 (([]:List ay).drop 0):=by unfold eV;rw[WK]at z9;rw[ly];exact z9
 obtain⟨wL,BS,rfl,Nb,Nc,Nd⟩:=bz Aa;obtain⟨pN,vH⟩:∃pN,pN=(([]:List ay).drop 0).length:=⟨_,rfl⟩;have M:=(uL.other j oU (λp=>by cases p)).trans tB.o;have N:=Qf (u:=.slice wL (([]:List ay).drop 0).length BS) M;have dX:=ag (λ(w9:World) (Dy:aR (λv=>v=j) w7 w9) (FC:kP w9 j k t (.slice wL (([]:List ay).drop 0).length BS) (aa z B C) l)=>(WP D.o aT.o.2 z7 P.o.1 P.o.2.1 Y un.o U.o M CE.o pd.o Aa uL FH Dy FC (P.o.2.2.2.2▸z8.o.1) z8.o.2.1 z8.o.2.2).before cj.o);rw[<-vH]at N dX Nb⊢;have z72:=cV M 2;obtain⟨_,_,x72,_,_⟩:=fh M;have adV:=aU M;obtain⟨y0,y1,_,_,_⟩:=fh N;have hz8:=cV N 1;have FA:=aU N;have Nf:=ag N;have HNK:=ag vH;unfold maxLen at Nc;clear vH z9 uL FH Aa Nd f0 f1 f2 f3 f4 oU FG;have adW:IntKind.i64.wrap ((su:Int)+((0:Nat):Int))=(su:Int)+((0:Nat):Int):=mN _ (by omega);have pp:((su:Int)+((0:Nat):Int))%(k:Int)=(t:Int):=by rw[P.o.2.1];simp
 have hm:((su:Int)+((0:Nat):Int)).tmod (k:Int)=((su:Int)+((0:Nat):Int))%(k:Int):=S7 (by omega);have jS:=P.o.2.2.2.1;have hw:IntKind.i64.wrap (((su:Int)+((0:Nat):Int))%(k:Int))=((su:Int)+((0:Nat):Int))%(k:Int):=by rw[pp];exact mN _ (by omega)
 have oW:¬(k=0):=by omega
 have H6:=ag pp;clear pp;go_wp2_with fail
 go_region
 all_goals go_wp2
 all_goals go_ret
 all_goals(
  refine⟨rfl,dX.o _ ?_ ?_⟩
  .first
    |exact((aR.it (S:=λv=>v=j) (g:=j) (o:=2) _ rfl).trans (aR.cL (gb _))).trans (aR.it (S:=λv=>v=j) (g:=j) (o:=1) _ rfl)
    |exact((aR.it (S:=λv=>v=j) (g:=j) (o:=2) _ rfl).trans (aR.it (S:=λv=>v=j) (g:=j) (o:=1) _ rfl)).trans (aR.cL (gb _))
  have xx:=setRow (i:=1) (u:=A (t:Int)) Nf.o;rw[show((su:Int)%(k:Int))=(t:Int) by have h0:=H6.o;simpa using h0];unfold kP;simp at xx;exact xx)
end
section
open Go.RowKit Tryz
open Go.ChangeMaps (setBlock)
attribute [local go_sem ↓] Go.wp_at_zero Go.wp_at_succ
variable {a d f:Nat}{b e:Nat->Int}{c:World}
def Ab (N:Nat) (a:Nat->Int) (b:List (Nat->Int)) (f:Nat->Int):Prop:=∀i,i<N->f i<=a i/\(∀r∈b,f i<=r i)/\(f i=a i\/∃r∈b,f i=r i)
def Rv (N:Nat) (a:Nat->Int) (b:List (Int×Nat)) (dq:Nat->List Int) (c:Nat->Int):Prop:=
 ((∃p∈b,a p.1.toNat<rowOf (dq p.2) p.1.toNat)/\∀i,i<N->c i=0)\/((∀p∈b,rowOf (dq p.2) p.1.toNat<=a p.1.toNat)/\Ab N a (b.map λp=>rowOf (dq p.2)) c)
theorem Ab.perm{c}{d:List (Nat->Int)}(h:Ab a b c e)(j:c.Perm d):Ab a b d e:=λi k=>by obtain⟨l,m,n⟩:=h i k;exact⟨l,λr g=>m r (j.mem_iff.2 g),n.imp id λ⟨r,g,f⟩=>⟨r,j.mem_iff.1 g,f⟩⟩
theorem Ab.step {c:List (Nat->Int)} (h:Ab a e c b) (r:Nat->Int):Ab a e (c++[r]) λi=>min (b i) (r i):=λi g=>by
 obtain⟨m,j,k⟩:=h i g;refine⟨by simp only;omega,λq f=> ?_,?_⟩
 .rcases dZ.1 f with f|f
  .have :=j q f;simp only;omega
  rw[fR.1 f];simp only;omega
 simp only;by_cases l:b i<=r i
 .rw[Int.min_eq_left l];exact k.imp id λ⟨q,f,d⟩=>⟨q,p3 _ f,d⟩
 rw[Int.min_eq_right (by omega)];simp
theorem Ab.congr{a}{g:Nat->Int}(h:Ab d b a e)(f:∀i,i<d->g i=e i):Ab d b a g:=λi c=>by rw[f i c];exact h i c
structure vW (w:World) (g N:Nat) (f:Nat->Int):Prop where
 cells:∀i,i<N->w.cell? (K g i)=some (A (f i))
 bb:∃cur,w.heap[g]?=some (.cells cur 3)
theorem vW.Cn{g}(h:vW c g a b)(i:Nat):c.frozen? (K g i)=false:=by obtain⟨e,d⟩:=h.bb;exact cV d i
theorem vW.jy{w':World}(h:vW c a d b)(e:w'.heap[a]?=c.heap[a]?):vW w' a d b:=by
 obtain⟨f,g⟩:=h.bb;refine⟨λi j=> ?_,f,e.trans g⟩;have :=h.cells i j;simp only[World.cell?]at this⊢
 simp_all
theorem vW.set{g}(h:vW c g a b){k:Nat}(o:k<a)(v:Int):vW (c.setCell (K g k) (A v)) g a (upd b k v):=by
 obtain⟨d,f⟩:=h.bb;have j:=setRow (i:=k) (u:=A v) f;refine⟨λi n=> ?_,_,j⟩;have l:=h.cells i n;simp only[World.cell?,f,j]at l⊢;by_cases e:i=k
 .subst e;rw[bL];have :i<d.size:=by
   rcases Nat.lt_or_ge i d.size with m|m
   .exact m
   simp_all
  simp[this]
 rw[ch _ _ e,F5,a7 (eE e)];exact l
theorem adX {b:List (Int×Nat)} {dq:Nat->List Int} (h:∀p∈b,(dq p.2).length=d/\c.heap[p.2]?=some (.cells ((dq p.2).map λx=>A x).toArray 3 (0,0))) {p:Int×Nat} (e:p∈b) (i:a<d):c.cell? (K (p.2) a)=some (A (rowOf (dq p.2) a)):=by
 obtain⟨j,f⟩:=h p e;have g:a<(dq p.2).length:=by omega
 simp[World.cell?,f,rowOf,g]
theorem aoy (N:Nat):ot N=nA N λ_=>0:=by
 have a:(ot N).toList=List.replicate N (A 0):=by unfold ot;have :=SH (A 0) (N*1);rw[xO]at this⊢;exact this
 apply Array.ext';rw[a];unfold nA;apply Ea
 .simp
 simp
theorem Walk.jy{b seen l}{w':World}(h:Walk b f a d seen l c)(e:w'.heap[a]?=c.heap[a]?)(g:w'.heap[d]?=c.heap[d]?):Walk b f a d seen l w':=⟨e.trans h.map,g.trans h.iter,h.seen,h.sub⟩
def BT (f r:Nat->Int) (k i:Nat):Int:=if i<k then min (f i) (r i) else f i
theorem aoz(f r:Nat->Int)(k:Nat):upd (BT f r k) k (min (f k) (r k))=BT f r (k+1):=by
 funext i;by_cases e:i=k
 .subst e;rw[bL];unfold BT;simp
 rw[ch _ _ e];unfold BT;omega
theorem aoA(f r:Nat->Int)(k:Nat):BT f r k k=f k:=a7 (Nat.lt_irrefl _)
theorem aoB {F I:Nat->Prop} {sp:Nat} {gt:Int} {ar:List ay} {bt:List (PId×ay)} {q:gm} (h:dU c f F I a sp d gt b ar bt q) (WS:∀p∈q.fX,∃l:Nat,l<a/\l≠d/\p.1=(l:Int)):
  O 82 #[Z f] c λe w'=>∃g cap st,e=ad (aa g a cap)/\q9 w' g cap a st/\Rv a b q.fX q.dq st/\J c w':=by
 have Bw:=h.hN;have Y:=h.hc;obtain⟨bw,bm,bq,ce,eN,j2⟩:=h.cells;have EU:=ag (VI h.ints (by rw[rW];omega));rw[rW]at EU;obtain⟨t,v,hm⟩:=h.E2;have B:=ag hm;have aT:=h;have HKE:=WS;have gC:=hm.lt;have CR:=LC a Bw;go_enter func82,ntmps82;go_wp2_with fail
 refine EU.o.mono ?_;rintro e n ⟨u,rfl,hu,aA⟩;obtain⟨x,cs,rfl,hG,gx,pA,Q8,Rw⟩:=hu.qu (by rw[rW];omega) (by rw[rW];omega);have oQ:vW n x a b:=⟨λi C=>(by rw[Rw i (by rw[rW];exact C)];simp[l3]),b0 hu rfl⟩;rw[rW]at hG⊢;unfold maxLen at gx;have aJ:=aA;have si:=oQ;replace j2:=ak aA j2;have tq:=B.o.ak aJ;have rG:=SK (P:=prog) n 107 3 24 q.hX t v underlying107 tq.bb;go_wp2_with fail
 obtain⟨L,R⟩:∃L,L=n.alloc (.mapIter (some q.hX) v #[] v):=⟨_,rfl⟩;rw[<-R];have hz1:=aJ.size;have Jn:=show J c L by rw[R];exact aJ.alloc hz1 _
 have GX:=show Walk t v q.hX n.heap.size #[] [] L by rw[R];exact⟨(is n _ tq.lt).trans tq.bb,D5 n _,rfl,λe z=>by cases z⟩
 have HOI:=show vW L x a b from si.jy (by rw[R];exact is n _ Q8)
 go_loopw [18] (λ_ wr=>∃seen y j,Walk t v q.hX n.heap.size seen y wr/\(y.map (·.born)).Nodup/\vW wr x a j/\Ab a b ((y.filterMap (iK t.toList q.fX)).map λp=>rowOf (q.dq p.2)) j/\(∀p∈y.filterMap (iK t.toList q.fX),rowOf (q.dq p.2) p.1.toNat<=b p.1.toNat)/\J c wr) (λ_ wr=>CH q.hX n.heap.size wr)
 case atStart=>exact⟨#[],[],b,GX,by simp,HOI,λi _=>⟨D8 _,λr aP=>(by simp at aP),.inl rfl⟩,λp s=>(by simp at s),Jn⟩
 case round=>
  obtain⟨seen,y,j,tl,cS,hor,rE,k2,bl⟩:=hrel;have D:=ag tl;have fF:=ag cS;have S:=ag hor;have tC:=rE;have zN:=k2;have jA:=ag bl;have tb:=jA.o.size;rcases SQ (P:=prog) wr 0 n.heap.size q.hX v v seen t v D.o.iter D.o.map B.o.old (bW _) with⟨sA,M⟩|⟨e,z,oY,sE,M⟩
  .have s:=D.o.all B.o.nodup fF.o sA;have ew:=ag (show(y.filterMap (iK t.toList q.fX)).Perm q.fX by have h1:=s.filterMap (iK t.toList q.fX);rw[P0 B.o.nodup (by have :=B.o.len;omega)]at h1;exact h1)
   have dG:x<wr.heap.size:=by obtain⟨cur,U⟩:=S.o.bb;exact aU U
   go_wp2;go_ret
   exact⟨x,cs,j,rfl,⟨S.o.cells,hG,by omega,dG⟩,.inr ⟨λp s=>zN p (ew.o.mem_iff.2 s),tC.perm (ew.o.map _)⟩,jA.o⟩
  have hp:e∈t.toList:=by unfold leftOf at z;simp at z;simpa using z.1
  obtain⟨⟨Ac,g⟩,W,A9,zA,zy⟩:=P1 B.o.nodup B.o.nK hp;have E:=ag (D.o.next (by omega) z sE);obtain⟨w,e4⟩:∃w,w=setBlock oY n.heap.size (.mapIter (some q.hX) v (seen.push e.born) v):=⟨_,rfl⟩;rw[<-e4]at M E;have nV:=SR (P:=prog) w n.heap.size q.hX v seen t v e E.o.iter E.o.map hp B.o.nodup;rw[zA,zy]at M nV;simp only[Bv,Qy]at M nV;have fw:wr.grownBy w (some n.heap.size):=by rw[e4];exact LN sE _ _
  clear e4 sE;have X:=jA.o.grown fw tb (λk hk=>by cases hk;omega);have mr:=ag (show vW w x a j from S.o.jy (by obtain⟨cur,U⟩:=S.o.bb;exact fw.block x (aU U) (λe=>by injection e with e;omega)))
  have Ba:=show((y++[e]).map (·.born)).Nodup by rw[ga,nI];refine⟨fF.o,by simp,λm aE d Y CI=> ?_⟩;simp at Y;subst Y;unfold leftOf at z;simp at z;rw[<-D.o.seen,CI]at aE;exact z.2 (by simpa using aE)
  have lZ:=ag (Jh z);have sq:=ag (show(y++[e]).filterMap (iK t.toList q.fX)=y.filterMap (iK t.toList q.fX)++[(Ac,g)] by rw[YV];simp[A9]);clear fw A9 zA zy hp;obtain⟨N,BU,hb,fq⟩:=HKE _ W;subst fq;have WT:=aT.ak X;have yB:=λi (C:i<a)=>adX (λp s=>(WT.zK p s).1) W C
  have d2:=(WT.cells).2.2.1;have fm:=yB N BU;have J2:=WT.Ho BU;have Fh:(0:Int)<=(N:Int):=by simp
  have HI:(N:Int)<(a:Int):=by omega
  have aoC:=e7 _ _ fm;have aoD:=e7 _ _ J2;have TY:=e7 _ _ d2;by_cases aw:b N<rowOf (q.dq g) N
  .have j9:=ag aw;have hz2:=X.size;go_wp2_with fail
   go_region
   all_goals go_wp2
   all_goals go_ret
   all_goals(
    have WU:=show J c (w.alloc (.cells (ot a) 3)).drew from(X.alloc hz2 _).drew
    have dJ:(w.alloc (.cells (ot a) 3)).drew.heap[w.heap.size]?=some (.cells (nA a λ_=>0) 3):=by rw[<-aoy];exact bZ w _
    exact⟨_,a,λ_=>0,rfl,⟨λi C=>(by simp only[World.cell?,dJ];exact Hl C),bW _,by omega,aU dJ⟩,.inl ⟨⟨_,W,j9.o⟩,λ_ _=>rfl⟩,WU⟩)
  have j9:=ag aw;have qj:=show vW w.drew x a (BT j (rowOf (q.dq g)) 0) from(by
   have e:BT j (rowOf (q.dq g)) 0=j:=by rfl
   rw[e];exact mr.o.jy rfl)
  have HWD:=E.o.jy (w':=w.drew) rfl rfl;have kN:=ag (X.drew);obtain⟨eB,rfl⟩:∃eB,eB=wr:=⟨_,rfl⟩;have HLM:=show CH q.hX n.heap.size w<CH q.hX n.heap.size eB by rw[E.o.left,D.o.left];exact lZ.o
  go_wp2_with fail
  go_region
  all_goals go_wp2_with fail
  all_goals clear d2 fm J2 aoC aoD TY M nV
  go_loopw [43] (λi WV=>∃k:Nat,k<=a/\i=A k/\vW WV x a (BT j (rowOf (q.dq g)) k)/\Walk t v q.hX n.heap.size (seen.push e.born) (y++[e]) WV/\J c WV) (λi _=>a-(intOf i).toNat)
  case atStart=>exact⟨0,b6 _,rfl,qj,HWD,kN.o⟩
  case round=>
   obtain⟨k,hk,rfl,O8,hwj,zU⟩:=hrel;have Q:=O8;have WW:=hwj;have Dv:=zU;by_cases ej:k<a
   .have TC:(k:Int)<(a:Int):=by omega
    have jY:(0:Int)<=(k:Int):=by simp
    have z6:(k:Int)<(cs:Int):=by omega
    have av:=adX (λp s=>((aT.ak Dv).zK p s).1) W ej;have aD:=Q.cells k ej;rw[aoA]at aD;have cY:=Q.Cn k;have eZ:=e7 _ _ av;have auM:=e7 _ _ aD;have Ly:=ag (Q.set ej (min (j k) (rowOf (q.dq g) k)));rw[aoz]at Ly;obtain⟨cur,U⟩:=Q.bb;have QH:=WW.jy (w':=wr.setCell (K x k) (A (min (j k) (rowOf (q.dq g) k)))) (dE λe=>by omega) (dE λe=>by omega);have LG:=Dv.setCell (p:=(K x k)) pA (A (min (j k) (rowOf (q.dq g) k)));go_wp2;go_roundw
    case rel=>exact⟨k+1,by omega,by go_num,Ly.o,QH,LG⟩
    case measure=>simp[intOf];omega
   have TC:¬(k:Int)<(a:Int):=by omega
   go_wp2;go_roundw
   case rel=>exact⟨seen.push e.born,y++[e],BT j (rowOf (q.dq g)) k,WW,Ba,Q,(by
    rw[sq.o,ga];refine(tC.step (rowOf (q.dq g))).congr λi C=> ?_
    unfold BT;omega),(λp s=>by
    rw[sq.o]at s;rcases dZ.1 s with s|s
    .exact zN p s
    rw[fR.1 s]
    assumption),Dv⟩
   case measure=>have h1:=WW.left;have h2:=E.o.left;have ax:=HLM;omega
end
section
open Go.RowKit Tryz
attribute [local go_sem ↓] Go.wp_at_zero Go.wp_at_succ
variable {a b e j s:Nat}{c f:Nat->Prop}{d q r:World}{h:bx}{i:da}{k:List ay}{l:Nat->Int}{m:Nat->List ay}{n:gm}
theorem aoE(h:q6 k)(n:Nat):q6 (k.drop n):=List.Pairwise.sublist (List.drop_sublist n k) h
def Ry (w:World) (f:Nat) (F I:Nat->Prop) (N g c:Nat) (gt:Int) (h:Nat->Int) (b:List ay) (i:List (PId×ay)) (q:gm) (G:Nat) (d:World):Prop:=∃e a,dU d f e I N g c gt h (b.drop G) i a/\a.fX=q.fX/\a.dq=q.dq/\a.D0=(q.D0.1,q.D0.2++(b.take G).map (·.op))/\dp F e w d
theorem aoF{g gt i G}(h:dU q b f c e a j gt l k i n)(m:J q r)(o:H0 n.ah a k n.d n.aF n.be n.xj c n.D0 n.D G r g):Ry q b f c e a j gt l k i n G g:=by obtain⟨x,y,z,B,C,p,s,t⟩:=o;obtain⟨u,v,w⟩:=(h.ak m).abW t p s (aoE h.j1 G);exact⟨u,_,v,rfl,rfl,rfl,w.before m⟩
theorem aoG{G}(f:¬n.xj a)(g:a<q.heap.size)(h:H0 b e k n.d n.aF n.be n.xj c n.D0 n.D G q r){v:Value}(i:q.cell? (K a 3)=some v):r.cell? (K a 3)=some v:=by
 obtain⟨l,m,o,p,s,t,u,j⟩:=h;have :=j.other a g f;simp only[World.cell?]at i⊢
 simp_all
theorem aoH {gt:Int} {r:List (PId×ay)} (h:dU d a c f b j e gt l k r n) (w:∀p∈n.fX,∃g:Nat,g<b/\g≠e/\p.1=(g:Int)) (y:∀x∈k,0<=x.op.id.2/\x.op.id.2<b):
  O 45 #[Z a] d λi z=>∃m,Rv b l n.fX n.dq m/\i=ad (A (kE m k))/\Ry d a c f b j e gt l k r n (kE m k) z:=by
 obtain⟨_,_,_,s,_,_⟩:=h.cells;go_enter func45,ntmps45;go_wp2_with fail
 go_region_held3 (λW=>W.cell? (K a 3)=some (Z n.ah)) (first |exact B.o|exact t.o|exact s|exact ak (gb _) s)
  (first
   |(go_at_call 82;refine((λW (C:J d W)=>aoB (h.ak C) w) _ (gb _)).mono ?_;rintro i I ⟨L,M,m,rfl,D,E,F⟩;have q:=Hq.o (nv F);have t:=ag (ak q s))
   |(go_at_call 81;refine(aow (h.ak q).kB (h.ak q).iY D y).mono ?_;rintro i u ⟨rfl,v⟩;have B:=ag (show u.cell? (K a 3)=some (Z n.ah) from aoG h.qt (c0 (aU h.bb) q.size) v t.o)))
 all_goals go_wp2
 all_goals go_ret
 all_goals exact⟨m,E,rfl,show Ry d a c f b j e gt l k r n (kE m k) u from aoF h q v⟩
def BV (s:bx) (c G:Nat):bx:={s with dR:=upd s.dR c (s.dR c++(s.kept c).take G),kept:=upd s.kept c ((s.kept c).drop G)}
def Rz (N:Nat) (s:bx) (c:Nat) (a:Nat->Int):Prop:=
 ((∃d,d<N/\d≠c/\s.ai c d<s.ic c d d)/\∀i,i<N->a i=0)\/((∀d,d<N->d≠c->s.ic c d d<=s.ai c d)/\∀i,i<N->a i<=s.ai c i/\(∀d,d<N->d≠c->a i<=s.ic c d i)/\(a i=s.ai c i\/∃d,d<N/\d≠c/\a i=s.ic c d i))
theorem eC.aoI(g:eC d e c f b j h i)(k:a<b){p:Int×Nat}(l:p∈(i.q a).fX):bV p.1 (i.q a).fX=some p.2:=by exact Ha (g.BJ a k).2.2 l
theorem eC.adY(o:eC d e c f b j h i)(y:a<b)(E:Rv b (h.ai a) (i.q a).fX (i.q a).dq l):Rz b h a l:=by
 have B:∀k,k<b->k≠a->∃g,((k:Int),g)∈(i.q a).fX/\∀m,m<b->rowOf ((i.q a).dq g) m=h.ic a k m:=λk t u=>by obtain⟨g,w,v⟩:=o.pN a k y t (eE u);exact⟨g,gZ w,v⟩
 have back:∀p∈(i.q a).fX,∃k,k<b/\k≠a/\p.1=(k:Int)/\∀m,m<b->rowOf ((i.q a).dq p.2) m=h.ic a k m:=λp x=>by obtain⟨k,t,u,n⟩:=(o.BJ a y).2.1 p x;obtain⟨g,w,v⟩:=o.pN a k y t (eE u);have C:=o.aoI y x;rw[n,w]at C;cases C;exact⟨k,t,u,n,v⟩
 rcases E with⟨⟨p,x,D⟩,F⟩|⟨I,L⟩
 .obtain⟨k,t,u,n,v⟩:=back p x;rw[n,xP,v k t]at D;exact .inl ⟨⟨k,t,u,D⟩,F⟩
 refine .inr ⟨λk t u=> ?_,λm z=> ?_⟩
 .obtain⟨g,w,v⟩:=B k t u;have :=I _ w
  simp_all
 obtain⟨r,s,n⟩:=L m z;refine⟨r,λk t u=> ?_,n.imp id λ⟨P,M,N⟩=> ?_⟩
 .obtain⟨g,w,v⟩:=B k t u;have :=s _ (dF.2 ⟨_,w,rfl⟩);rw[v m z]at this;exact this
 obtain⟨p,x,rfl⟩:=dF.1 M;obtain⟨k,t,u,_,v⟩:=back p x;exact⟨k,t,u,N.trans (v m z)⟩
theorem ed.trim(c:ed b m h)(w:a<b)(E:Rz b h a l):ed b m (BV h a (kE l (h.kept a))):=by
 have q:∀g∈(h.kept a).take (kE l (h.kept a)),g∈h.ar a/\∃e,e<b/\g∈m e/\g.op.id.2.toNat=e/\1<=g.op.cb/\g.op.cb<=h.ai a e/\∀d,d<b->d≠a->h.ic a d d<=h.ai a d/\g.op.cb<=h.ic a d e:=λg q=>by
  have x:=S6 (aog q);have z:=(c.Dt w).subset (mo q);obtain⟨e,j,r⟩:=(c.copy a w).bJ z;obtain⟨i,F,_,N,I,_⟩:=c.bJ.at j r;have s:g.op.id.2.toNat=e:=by omega
  have t:=((c.copy a w).mem c.bJ ⟨e,j,r⟩).1 z;rw[s]at x t;refine⟨z,e,j,r,s,by omega,t,λd k n=> ?_⟩;rcases E with⟨_,L⟩|⟨u,M⟩
  .rw[L e j]at x;omega
  exact⟨u d k n,Cg x ((M e j).2.1 d k n)⟩
 refine⟨c.bJ,c.copy,c.own,c.j1,c.xu,c.iY,c.msgs,λe j=> ?_,c.uE,c.BN,λe j g f d k=> ?_,λe j g f d k y v p=> ?_⟩
 .by_cases o:e=a
  .subst o;show h.ar e=upd h.dR e _ e++upd h.kept e _ e;rw[bL,bL,kr,za];exact c.k9 e j
  show h.ar e=upd h.dR a _ e++upd h.kept a _ e;rw[ch _ _ o,ch _ _ o];exact c.k9 e j
 .by_cases o:e=a
  .subst o;replace f:g∈upd h.dR e _ e:=f;rw[bL]at f;rcases dZ.1 f with f|f
   .exact c.BO e j g f d k
   obtain⟨_,B,C,_,s,_,t,D⟩:=q g f;rw[s];by_cases n:d=e
   .subst n;exact t
   exact Cg (D d k n).2 ((c.BN e d j k (eE n)).1 B C).2
  replace f:g∈upd h.dR a _ e:=f;rw[ch _ _ o]at f;exact c.BO e j g f d k
 by_cases o:e=a
 .subst o;replace f:g∈upd h.dR e _ e:=f;rw[bL]at f;rcases dZ.1 f with f|f
  .exact c.Ds e j g f d k y v p
  obtain⟨_,B,C,r,s,_,t,D⟩:=q g f;by_cases n:d=e
  .subst n;exfalso;replace p:h.ai d d<y.op.cb:=p;rw[c.own d k]at p;obtain⟨i,F,_,_,I,_⟩:=c.bJ.at k v;omega
  have u:=D d k n;exact(c.BN e d j k (eE n)).2 y v (Y9 u.1 p) B C g r u.2
 replace f:g∈upd h.dR a _ e:=f;rw[ch _ _ o]at f;exact c.Ds e j g f d k y v p
def aoJ (r N b:Nat) (F I:Nat->Prop) (M:Nat->List ay) (s:bx) (x:da) (c:Nat) (w:World) (e:Ending) (d:World):Prop:=∃a,Rz N s c a/\e=ad (.tuple #[A (kE a (s.kept c)),A 0])/\ri r N b F I w d x.eR M (BV s c (kE a (s.kept c)))
theorem ei.aoK{v M}(n:ei d j f c b e M h i)(u:J d r)(s:a<b)(z:Rv b (h.ai a) (i.q a).fX (i.q a).dq l)(B:Ry r (i.eR a) (i.jh a) c b e a (h.gt a) (h.ai a) (h.kept a) (h.bt a) (i.q a) (kE l (h.kept a)) v):ri j b e f c d v i.eR M (BV h a (kE l (h.kept a))):=by
 obtain⟨W,X,C,D,Y,E,F⟩:=B;obtain⟨I,w,x,L,_⟩:=(n.m.ak u).Wd s C F (λ_ y=>y) (λ_ y=>.inl y) (gone':=h.dR a++(h.kept a).take (kE l (h.kept a))) (ops':=h.ar a) (nw':=h.ic a) (by
  obtain⟨N,P,Q,a4⟩:=n.m.lp a s;rw[E];exact⟨N,P,Q,by simp_all⟩) (by rw[kr,za];exact n.m.k9 a s) D (λo R S g aq p hi=>by
  obtain⟨g',iH,aO⟩:=n.m.pN a o s R S
  simp_all)
 have U:({h with gt:=upd h.gt a (h.gt a),ai:=upd h.ai a (h.ai a),ar:=upd h.ar a (h.ar a),dR:=upd h.dR a (h.dR a++(h.kept a).take (kE l (h.kept a))),kept:=upd h.kept a ((h.kept a).drop (kE l (h.kept a))),bt:=upd h.bt a (h.bt a),ic:=upd h.ic a (h.ic a)}:bx)=BV h a (kE l (h.kept a)):=by rw[tG,tG,tG,tG,tG];rfl
 rw[U]at w;refine⟨_,c,I,⟨w,n.ok.trim s (n.m.adY s z),n.md⟩,L,x.before u,λk t=>⟨t,?_⟩,λ_ t=>.inl t⟩;exact(x.other k (c0 (n.m.cI k t) u.size) (n.m.e0 k t)).trans (u.block k (n.m.cI k t))
theorem aoL {M:Nat->List ay} (g:ei d b c f e j M h i) (l:a<e):
  O 21 #[Z b,A a] d λk p=>aoJ b e j c f M h i a d k p:=by
 go_enter func21,ntmps21;go_wp2_with fail
 refine(MQ g.m a l).mono ?_;rintro k t ⟨rfl,rfl⟩;go_wp2_with fail
 refine(aoH (g.m.fi a l) (g.m.BJ a l).2.1 λy q=>(g.ok.copy a l).copy g.ok.bJ ((g.ok.Dt l).subset q)).mono ?_;rintro k u ⟨o,r,rfl,s⟩;have n:=aN r s;go_wp2;go_ret2
 exact(show ∃o,_ from⟨o,g.m.adY l n.1,rfl,g.aoK (ca _ _) l n.1 n.2⟩)
theorem aoM {m n:Value} {o:List hV} {p q:Nat} {D0:k8} {D:cZ} (h:iP d a b e m n k j o s p q c f D0 D):
  O 160 #[Z a] d λg r=>g=ad (A k.length)/\r=d:=by
 have l:=h.bb;obtain⟨i,t,rfl,u,v,_⟩:=bz h.row;have w:d.cell? (K a 2)=some (.slice i k.length t):=by unfold kP at l;simp[World.cell?,l]
 go_enter func160,ntmps160;go_wp2;go_ret
 simp
def mG (N:Nat) (a b:Int):Prop:=∃c d:Nat,c<N/\d<N/\c≠d/\a=c/\b=d
theorem Nh (k:eC d a c f b e h i) (g j:Int) (n:¬mG b g j):O 51 #[Z a,A g,A j] d λl o=>l=ad (.tuple #[.pointer none,A 9])/\o=d:=by
 have q:=(bD k.bb).2;obtain⟨r,s,p⟩:=k.HL;have m:=Cj Vl p underlying117 (show(zeroValue 110).run prog d=.ok (.pointer none) d by kernel_rfl) (g,j) true;rw[k.Do g j n]at m;have t:(Instr.lookup 117 (.map (some i.kY)) (.agg #[A g,A j]) true).run prog d=.ok (.tuple #[.pointer none,.bool false]) d:=m;go_enter func51,ntmps51;go_wp2;go_ret2
 simp
theorem RA (l:eC d a c f b e h i) (g j:Int) (m:¬mG b g j):O 74 #[Z a,A g,A j] d λk n=>k=ad (.tuple #[.pointer none,A 9])/\n=d:=by
 go_enter func74,ntmps74;go_wp2_with fail
 refine(Nh l g j m).mono ?_;rintro k o ⟨rfl,rfl⟩;go_wp2;go_ret2
 simp
theorem aoN (l:eC d a c f b e h i) (g j:Int) (m:¬mG b g j):O 27 #[Z a,A g,A j] d λk n=>k=ad (A 9)/\n=d:=by
 go_enter func27,ntmps27;go_wp2_with fail
 refine(Nh l g j m).mono ?_;rintro k o ⟨rfl,rfl⟩;go_wp2;go_ret
 simp
theorem aoO (l:eC d a c f b e h i) (g j:Int) (m:¬mG b g j):O 39 #[Z a,A g,A j] d λk n=>k=ad (A 9)/\n=d:=by
 go_enter func39,ntmps39;go_wp2_with fail
 refine(RA l g j m).mono ?_;rintro k o ⟨rfl,rfl⟩;go_wp2;go_ret
 simp
theorem aoP (l:eC d a c f b e h i) (g j:Int) (m:¬mG b g j):O 115 #[Z a,A g,A j] d λk n=>k=ad (.tuple #[A 0,A 9])/\n=d:=by
 go_enter func115,ntmps115;go_wp2_with fail
 refine(Nh l g j m).mono ?_;rintro k o ⟨rfl,rfl⟩;go_wp2;go_ret2
 simp
theorem aoQ (l:eC d a c f b e h i) (g j:Int) (m:¬mG b g j):O 41 #[Z a,A g,A j] d λk n=>k=ad (A 9)/\n=d:=by
 go_enter func41,ntmps41;go_wp2_with fail
 refine(RA l g j m).mono ?_;rintro k o ⟨rfl,rfl⟩;go_wp2;go_ret
 simp
theorem aoR (l:eC d a c f b e h i) (g j:Int) (m:¬mG b g j):O 42 #[Z a,A g,A j] d λk n=>k=ad (A 9)/\n=d:=by
 go_enter func42,ntmps42;go_wp2_with fail
 refine(RA l g j m).mono ?_;rintro k o ⟨rfl,rfl⟩;go_wp2;go_ret
 simp
theorem aoS (l:eC d a c f b e h i) (g j:Int) (m:¬mG b g j):O 43 #[Z a,A g,A j] d λk n=>k=ad (A 9)/\n=d:=by
 go_enter func43,ntmps43;go_wp2_with fail
 refine(RA l g j m).mono ?_;rintro k o ⟨rfl,rfl⟩;go_wp2;go_ret
 simp
theorem aoT (l:eC d a c f b e h i) (g j:Int) (m:¬mG b g j):O 120 #[Z a,A g,A j] d λk n=>k=ad (A 9)/\n=d:=by
 go_enter func120,ntmps120;go_wp2_with fail
 refine(Nh l g j m).mono ?_;rintro k o ⟨rfl,rfl⟩;go_wp2;go_ret
 simp
theorem aoU (l:eC d a c f b e h i) (g j:Int) (m:¬mG b g j):O 122 #[Z a,A g,A j] d λk n=>k=ad (.tuple #[A 0,A 9])/\n=d:=by
 go_enter func122,ntmps122;go_wp2_with fail
 refine(Nh l g j m).mono ?_;rintro k o ⟨rfl,rfl⟩;go_wp2;go_ret2
 simp
theorem aoV (g:eC d j c f e s h i) (l:a<e) (m:b<e) (n:a≠b):O 115 #[Z j,A a,A b] d λk q=>k=ad (.tuple #[A (h.ms a b).length,A 0])/\q=d:=by
 have p:=ag (V5 (g.k5 a b l m n));rw[<-(g.vO a b l m n).len]at p;go_enter func115,ntmps115;go_wp2_with fail
 refine(MR g l m n).mono ?_;rintro k r ⟨rfl,rfl⟩;go_wp2_with fail
 refine p.o.mono ?_;rintro k t ⟨rfl,rfl⟩;go_wp2;go_ret2
 simp
theorem aoW (j:eC d a c f b e h i) (g:Nat) (l:g<b):O 125 #[Z a,A g] d λk m=>k=ad (.tuple #[A (h.kept g).length,A 0])/\m=d:=by
 obtain⟨n,o,p,q,eN,r⟩:=(j.fi g l).cells;go_enter func125,ntmps125;go_wp2_with fail
 refine(MQ j g l).mono ?_;rintro k s ⟨rfl,rfl⟩;go_wp2_with fail
 refine(aoM ((j.fi g l).kB)).mono ?_;rintro k t ⟨rfl,rfl⟩;go_wp2;go_ret2
 simp
end
