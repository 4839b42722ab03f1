/- Our own text. -/
import Derived.Test.YtnkpogjiiohapaaGreatDoorA27
import Derived.Test.YtnkpogjiiohapaaGreatDoorA17
import Derived.Test.YtnkpogjiiohapaaGreatDoorA26
set_option linter.unusedSimpArgs false
set_option linter.unusedVariables false
set_option maxRecDepth 1000000
set_option maxHeartbeats 4000000
namespace Go.Proofs.YtnkpogjiiohapaaGreatDoor
section
open Go.RowKit Tryz
variable {a e f h:Nat}{b:cX}{c:World}{d:List bg}{i:bg}
def yK (a b:cP):Bool:= !e2 b.cQ a.cQ
def uP (l:List cP):List cP:=l.mergeSort yK
theorem aiH(a b c:cP)(d:yK a b=true)(e:yK b c=true):yK a c=true:=by
 unfold yK at *;simp only[Bool.not_eq_true',zM]at *;omega
theorem aiI(a b:cP):(yK a b||yK b a)=true:=by
 unfold yK;cases h:e2 b.cQ a.cQ
 ·simp
 have :e2 a.cQ b.cQ=false:=by rw[qz]at h;rw[zM];omega
 simp[this]
theorem RU(l:List cP):(uP l).Perm l:=arT _ _
theorem Zh(l:List cP):(uP l).length=l.length:=(RU l).length_eq
theorem RV{l:List cP}{x:cP}:x∈uP l↔x∈l:=(RU l).mem_iff
theorem aiJ(l:List cP):((uP l).map mW).Pairwise fun a b=>e2 b.1 a.1=false:=by
 rw[aqN];refine(asw aiH aiI l).imp fun{a b} h=> ?_
 show e2 b.cQ a.cQ=false;unfold yK at h
 simp_all
theorem Zi:∀{c m:List (PId×dU)},c.Perm m->(c.Pairwise fun a b=>e2 a.1 b.1=true)->(m.Pairwise fun a b=>e2 b.1 a.1=false)->c=m
 |[],m,d,_,_=>by simp_all
 |v::c,[],d,_,_=>by simp_all
 |v::c,y::m,d,f,g=>by
  obtain⟨i,j⟩:=aqU.1 f;obtain⟨k,l⟩:=aqU.1 g;have n:v=y:=by
   rcases aqb.1 (d.mem_iff.1 (aqf (a:=v))) with h|h
   ·exact h
   have o:=k v h;rcases aqb.1 (d.mem_iff.2 (aqf (a:=y))) with e|e
   ·simp_all
   have p:=i y e
   simp_all
  subst n;rw[Zi (List.perm_cons v|>.1 d) j l]
theorem aiK{a:List (PId×dU)}{l:List cP}(b:a.Perm (l.map mW))(c:mX (a.map (·.1))):a=(uP l).map mW:=
 Zi (b.trans ((RU l).symm.map mW)) (aqN.1 c) (aiJ l)
def qN (a:PId->ByteArray) (l:List cP):ByteArray:=lG bar ((uP l).map (kP a))
def nf (a:PId->ByteArray) (b:Bool) (s:b9):ByteArray:=if b then qN a s.ad else(s.key++colon)++qN a s.ad
def yL (a:PId->ByteArray) (b:Bool) (M:List b9):ByteArray:=lG comma ((M.filter l2).map (nf a b))
def vZ (a:PId->ByteArray) (b:Bool) (M:List b9):ByteArray:=if b then(⟨#[91]⟩++yL a b M)++⟨#[93]⟩ else(⟨#[123]⟩++yL a b M)++⟨#[125]⟩
def ew (R:List bg):Nat->PId->ByteArray
 |0,_=>⟨#[35]⟩
 |r+1,x=>match bt R x with
  |some o=>vZ (ew R r) o.list (kg o)
  |none=>⟨#[]⟩
theorem RW{x:PId}(h:bt d x=some i)(r:Nat):ew d (r+1) x=vZ (ew d r) i.list (kg i):=by
 show(match bt d x with |some i=>_|none=>_)=_;rw[h]
structure xj (w:World) (d aB be:Nat) (D:cX) (R:List bg):Prop where
 q:cz w d aB be D.1 D.2
 ko:e1 R D
 jl:fH D
 pow:Pow w
 root:∃o,bt R (0,0)=some o
 nums:∀x o,bt R x=some o->∀s∈o.ss,∀h∈s.ad,k7 h.num
 wE:∀x o,bt R x=some o->∀s∈o.ss,∀h∈s.ad,∃o',bt R h.obj=some o'
 Zj:∀p∈D.1,p.2.ks.length<=10000
 cnt:∀x o,bt R x=some o->o.ss.length<=10000
 vl:∀x o,bt R x=some o->∀s∈o.ss,s.ad.length<=10000/\s.key.size<=4
 qo:∀r,r<=3->∀x o,bt R x=some o->(yL (ew R r) o.list (kg o)).size<=1000000000000/\∀s∈o.ss,(qN (ew R r) s.ad).size<=1000000000000
theorem xj.ae{w d a b D R}{w':World}(h:xj w d a b D R)(c:J w w'):xj w' d a b D R:=⟨h.q.ae c,h.ko,h.jl,h.pow.ae c,h.root,h.nums,h.wE,h.Zj,h.cnt,h.vl,h.qo⟩
def Cg (w:World) (d:Nat) (R:List bg) (r:Nat):Prop:=∀W,J w W->∀(x:PId) (o:bg),bt R x=some o->
 O 88 #[Z d,.agg #[A x.1,A x.2],A (5-(r:Int))] W fun e a=>e=.returned (.string (ew R r x))/\J W a
theorem Cg.ae{w R r}{w':World}(h:Cg w a R r)(b:J w w'):Cg w' a R r:=fun W c x o d=>h W (b.trans (c.mono b.size)) x o d
def MT (w:World) (v:Value) (l:List dU):Prop:=w.ownsRow 0 57 3 v l.length (l.flatMap nR)
theorem MT.cells{w l}{g n cap:Nat}(h:MT w (.slice (some (H g)) n cap) l)(b:n=l.length)(i:Nat)(c:i<l.length):
  w.cell? (K g (i*3))=some (A l[i].1)/\w.cell? (K g (i*3+1))=some (A l[i].2.1)/\w.cell? (K g (i*3+2))=some (A l[i].2.2):=by
 subst b;have a:=fun j (d:j<3)=>ir (f:=nR) (k:=3) (fun _=>rfl) h rfl i c j d
 refine⟨a 0 (by omega),a 1 (by omega),?_⟩;exact a 2 (by omega)
theorem aiL(i:xj c e f h b d)(t:a<=3)(ih:Cg c e d a)(x:cP)(n:k7 x.num)(k:∃o,bt d x.obj=some o):
  O 184 #[Z e,.agg #[A x.num,A x.obj.1,A x.obj.2],A (4-(a:Int))] c fun g p=>g=.returned (.string (kP (ew d a) x))/\J c p:=by
 obtain⟨o,k⟩:=k;have j:=(apY c.heap.size c).alloc (apX _) (.cells #[A x.num,A x.obj.1,A x.obj.2] 57);have q:=agt x.num n (i.pow.ae j);have r:=aa (ih _ j x.obj o k);unfold kP;have heq:=uZ;cases u:eF x.obj.1 x.obj.2 0 0
 ·have v:IntKind.i64.wrap (4-(a:Int)+1)=5-(a:Int):=by rw[aqS _ (by omega)];omega
  have w:(4-(a:Int))+1=5-(a:Int):=by omega
  go_enter func184,ntmps184;go_wp2_with fail
  refine r.o.mono ?_;rintro g s ⟨rfl,l⟩;have m:=aa (j.trans (l.mono j.size));go_wp2;go_ret
  exact⟨by simp,m.o⟩
 go_enter func184,ntmps184;go_wp2_with fail
 refine q.mono ?_;rintro g s ⟨rfl,l⟩;have m:=aa (j.trans (l.mono j.size));go_wp2;go_ret
 exact⟨by simp,m.o⟩
theorem RX{b d:World}{o:Obj}{e:Option Nat}(h:Below a b c)(f:(c.alloc o).grownBy d e)(g:a<=c.heap.size)(i:∀k,e=some k->a<=k):Below a b d:=
 (h.alloc g o).grown f (by simp;omega) i
theorem Zk(l:xj c e f h b d)(aH:a<=3)(ih:Cg c e d a)(n p r s:Int)(t:ByteArray)(v:List cP)(Y:v.length<=10000)(dX:(eZ b.1 b.2 (n,p) t (r,s)).aC.Perm (v.map mW))(cO:((eZ b.1 b.2 (n,p) t (r,s)).aC.map (·.1)).Nodup)(I:∀x∈v,k7 x.num)(L:∀x∈v,∃o,bt d x.obj=some o)(hsz:(qN (ew d a) v).size<=1000000000000):
  O 167 #[Z e,.agg #[A n,A p,.string t,A r,A s],A (4-(a:Int))] c fun j z=>j=.returned (.string (qN (ew d a) v))/\J c z:=by
 have M:=(apY c.heap.size c).alloc (apX _) (.cells #[A n,A p,.string t,A r,A s] 97);have dT:=aa (show O 49 #[Z e,.agg #[A n,A p,.string t,A r,A s]] (c.alloc (.cells #[A n,A p,.string t,A r,A s] 97)) fun j z=>∃u,j=.returned u/\oT (c.alloc (.cells #[A n,A p,.string t,A r,A s] 97)).heap.size z u ((uP v).map valOf)/\Below (c.alloc (.cells #[A n,A p,.string t,A r,A s] 97)).heap.size (c.alloc (.cells #[A n,A p,.string t,A r,A s] 97)) z from by
  refine(QL (l.q.ae M) n p r s t (by rw[dX.length_eq,ap2];exact Y) cO).mono ?_;rintro j z ⟨u,hO,h1,h2,al,aL,b1⟩;rw[aiK (h2.trans dX) al,aqO]at aL;exact⟨u,h1,aL,b1⟩)
 rw[<-Zh]at Y;replace I:∀x∈uP v,k7 x.num:=fun x w=>I x (RV.1 w)
 replace L:∀x∈uP v,∃o,bt d x.obj=some o:=fun x w=>L x (RV.1 w)
 unfold qN at hsz⊢;generalize uP v=m at *;have Jb:=fun W (ab:J c W) x (w:x∈m)=>aiL (l.ae ab) aH (ih.ae ab) x (I x w) (L x w)
 have R0:=hsz;go_enter func167,ntmps167;go_wp2_with fail
 refine dT.o.mono ?_;rintro j B ⟨u,rfl,N,aq⟩;have ay:=M.trans (aq.mono M.size);have hz1:=ay.size;have gr:=show MT B u (m.map valOf) from gT N (apZ _)
 have HUG:=aa (ap1 N);obtain⟨kE,kF,rfl,va,sZ,iw⟩:=bm N;unfold maxLen at sZ;rw[ap2]at va;go_wp2_with fail
 go_loopw [7,14] (fun u i wr=>∃k:Nat,k<=m.length/\i=A k/\pR B.heap.size wr u ((m.take k).map (kP (ew d a)))/\J B wr) (fun _ i _=>m.length-(intOf i).toNat)
 case atStart=>exact⟨0,apZ _,rfl,aqe _ _ _ _,apY _ _⟩
 case round=>
  obtain⟨k,hk,rfl,P,y⟩:=hrel;have sC:=y.size;have D:=ay.trans (y.mono hz1);by_cases E:k<m.length
  ·obtain⟨g,rfl⟩:=iw k (by simpa using E);obtain⟨F,Q,R⟩:=MT.cells gr (by simp) k (by simpa using E);simp only[aqH,valOf]at F Q R;replace F:=ae y F;replace Q:=ae y Q;replace R:=ae y R;have c9:=aqd wr _ F;have df:(k:Int)<(m.length:Int):=by omega
   have cR:=P;have gP:=y;have S:=show J wr (wr.alloc (.cells #[A m[k].num,A m[k].obj.1,A m[k].obj.2] 57)) from(apY _ wr).alloc (apX _) _
   have Jc:=Jb _ (D.trans (S.mono D.size)) m[k] (ap6 E);go_wp2_with fail
   refine Jc.mono ?_;rintro j U ⟨rfl,X⟩;have C:=aa (S.trans (X.mono S.size));have hz2:=C.o.size;have jZ:=show pR B.heap.size U _ ((m.take k).map (kP (ew d a))) from c7 cR C.o
   have ku:((m.take k).map (kP (ew d a))).length=k:=by rw[ap2,aqg];omega
   go_wp2_with (at_builtin;go_must (refine LM rfl (.tmp 18) (.tmp 23) rfl B.heap.size _ ((m.take k).map (kP (ew d a))) rfl ?h1 U.heap.size 1 (kP (ew d a) m[k]) rfl ?h2 ?aL ?b1 ?_;(case h1=>exact arj jZ _);(case h2=>simp);(case aL=>omega);(case b1=>simp;omega);intro v' w3 gi di;have nw:=di;have qv:=gi))
   go_roundw
   case rel=>
    have bb:=RX (gP.trans (C.o.mono gP.size)) (o:=.cells #[.string (kP (ew d a) m[k])] 9) nw (by omega) fun g ag=>(ap1 jZ g ag).1
    exact⟨k+1,by omega,by go_num,by rw[EY _ E];exact qv,bb⟩
   case measure=>simp[intOf];omega
  have ho:k=m.length:=by omega
  subst ho;rw[aql (apX _)]at P;have vK:=Qs P bar (by rw[ap2];omega) (ap0 R0 (by omega));go_wp2_with fail
  refine vK.mono ?_;rintro j U ⟨rfl,X⟩;have C:=aa (D.trans (X.mono D.size));go_wp2;go_ret
  exact⟨rfl,C.o⟩
theorem Zl(h:fH b)(a:PId)(c:ByteArray)(d:PId):((eZ b.1 b.2 a c d).aC.map (·.1)).Nodup:=by
 unfold eZ;split
 ·split
  ·split
   ·rename_i e f
    exact h.mQ _ (fL f)
   exact arh
  split
  ·rename_i j g
   split
   ·rename_i k i
    exact h.fG _ (fL g) _ (fL i)
   exact arh
  exact arh
 exact arh
theorem aiM(j:xj c e f h b d)(E:a<=3)(ih:Cg c e d a)(x:PId){o:bg}(m:bt d x=some o)(n:o.list=true):
  O 140 #[Z e,.agg #[A x.1,A x.2],A (4-(a:Int))] c fun l F=>l=.returned (.string (vZ (ew d a) o.list (kg o)))/\J c F:=by
 have I:=aa ((apY c.heap.size c).alloc (apX _) (.cells #[A x.1,A x.2] 36));have c2:=aa (bI c (.cells #[A x.1,A x.2] 36));obtain⟨aV,X,t⟩:=j.ko.bh x o m;have Y:o.ss.length<=10000:=j.cnt x o m;have M:=aa (show O 57 #[Z e,.agg #[A x.1,A x.2]] (c.alloc (.cells #[A x.1,A x.2] 36)) _ from VZ (j.q.ae I.o) x.1 x.2 X (t.list.trans n) (t.chain n) (by rw[ap2];omega));rw[YW t n,show dB o=(o.ss.filter l2).map b9.id from rfl]at M;have Jb:=aa (show ∀s∈o.ss,∀W,J c W->O 167 #[Z e,.agg #[A x.1,A x.2,.string ⟨#[]⟩,A s.id.1,A s.id.2],A (4-(a:Int))] W fun l F=>l=.returned (.string (nf (ew d a) o.list s))/\J W F from fun s p W ab=>by
  have hk:=(t.elems n s p).1;have R1:hg o ⟨#[]⟩ s.id=s.ad:=t.Il p (pb.2 ⟨hk,rfl⟩);have ah:=(j.ko.FU m n (ap5.2 ⟨s,p,rfl⟩)).2;rw[R1]at ah;have :=Zk (j.ae ab) E (ih.ae ab) x.1 x.2 s.id.1 s.id.2 ⟨#[]⟩ s.ad (j.vl x o m s p).1 ah (Zl j.jl _ _ _) (j.nums x o m s p) (j.wE x o m s p) ((j.qo a E x o m).2 s p);unfold nf;rw[n];exact this)
 have kh:=(j.qo a E x o m).1;have N:yL (ew d a) o.list (kg o)=lG comma ((o.ss.filter l2).map (nf (ew d a) o.list)):=by
  have hd:kg o=o.ss:=by unfold kg;rw[n];rfl
  rw[hd];rfl
 have Jd:=aa (show(lG comma ((o.ss.filter l2).map (nf (ew d a) o.list))).size<=140737488355328 by rw[<-N];omega);have I3:=aa N;have tQ:(o.ss.filter l2).length<=10000:=ap0 (aqR _ _) Y;have sI:=aa (show ∀s∈o.ss.filter l2,s∈o.ss from fun s p=>(aqL.1 p).1);have ml:=aa n;clear j ih X t Y kh N m n;generalize cv:o.ss.filter l2=L at *;clear cv;go_enter func140,ntmps140;go_wp2_with fail
 refine M.o.mono ?_;rintro l v ⟨u,rfl,P,Q⟩;have bW:=aa (bj c2.o Q);have ay:=aa (I.o.trans (Q.mono I.o.size));clear Q;have hz1:=ay.o.size;have gr:=aa (show eE v u (L.map b9.id) from P.ids);obtain⟨kE,kF,rfl,va,sZ,iw⟩:=bm P;clear P M;unfold maxLen at sZ;rw[ap2]at va;go_wp2_with fail
 go_loopw [7,14] (fun u i wr=>∃k:Nat,k<=L.length/\i=A k/\pR v.heap.size wr u ((L.take k).map (nf (ew d a) o.list))/\J v wr) (fun _ i _=>L.length-(intOf i).toNat)
 case atStart=>exact⟨0,apZ _,rfl,aqe _ _ _ _,apY _ _⟩
 case round=>
  obtain⟨k,hk,rfl,w,r⟩:=hrel;have sC:=r.size;have B:=aa (ay.o.trans (r.mono hz1));by_cases C:k<L.length
  ·obtain⟨g,rfl⟩:=iw k (by simpa using C);obtain⟨D,R⟩:=eE.cells gr.o (by simp) k (by simpa using C);simp only[aqH]at D R;replace D:=ae r D;replace R:=ae r R;have cB:=aa (bj bW.o r);obtain⟨cy,bx⟩:=bl cB.o;have eX:=aN cB.o;have c9:=aqd wr _ D;have df:(k:Int)<(L.length:Int):=by omega
   have cR:=aa w;clear w;have gP:=aa r;clear r;have bL:=aa (show J wr (wr.alloc (.cells #[A L[k].id.1,A L[k].id.2] 36)) from(apY _ wr).alloc (apX _) _);go_wp2_with fail
   refine(MM _ _ _ _ _).mono ?_;rintro l w2 ⟨rfl,y⟩;have z:=aa (bL.o.trans (y.mono bL.o.size));clear y;have Jc:=aa (Jb.o L[k] (sI.o _ (ap6 C)) w2 (B.o.trans (z.o.mono B.o.size)));go_wp2_with fail
   refine Jc.o.mono ?_;rintro l S ⟨rfl,bb⟩;have U:=aa (z.o.trans (bb.mono z.o.size));clear bb;have mR:=U.o.size;have js:=aa (show pR v.heap.size S _ ((L.take k).map (nf (ew d a) o.list)) from c7 cR.o U.o);have ku:((L.take k).map (nf (ew d a) o.list)).length=k:=by rw[ap2,aqg];omega
   go_wp2_with (at_builtin;go_must (refine LM rfl (.tmp 18) (.tmp 25) rfl v.heap.size _ ((L.take k).map (nf (ew d a) o.list)) rfl ?h1 S.heap.size 1 (nf (ew d a) o.list L[k]) rfl ?h2 ?aL ?b1 ?_;(case h1=>exact arj js.o _);(case h2=>exact RH (bI S _));(case aL=>omega);(case b1=>simp;omega);intro v' w4 wy dw;have j8:=aa dw;clear dw;have iY:=aa wy;clear wy))
   go_roundw
   case rel=>
    have gp:J v w4:=RX (gP.o.trans (U.o.mono gP.o.size)) (o:=.cells #[.string (nf (ew d a) o.list L[k])] 9) j8.o (by omega) fun g ag=>(ap1 js.o g ag).1
    exact⟨k+1,by omega,by go_num,by rw[EY _ C];exact iY.o,gp⟩
   case measure=>simp[intOf];omega
  have ho:k=L.length:=by omega
  subst ho;rw[aql (apX _)]at w;have vK:=aa (Qs w comma (by rw[ap2];omega) Jd.o);clear w;go_wp2_with fail
  refine vK.o.mono ?_;rintro l w2 ⟨rfl,y⟩;have z:=aa (B.o.trans (y.mono B.o.size));clear y;have hjz:=Jd.o;clear vK;go_wp2;go_ret
  refine⟨A0 ?_,z.o⟩;unfold vZ;rw[I3.o,ml.o,if_pos rfl]
theorem aiN{R:List bg}{x:PId}{f:eO}(w:fH b)(y:bC x b.1=some f)(j:yq b.2 x i f)(n:i.list=false):ri (o4 f.ks)=((q0 i.ss).filter l2).map b9.key:=by
 have t:(f.ks.map (·.1)).Nodup:=w.ks _ (fL y);have z:=j.FR n;have B:=j.keys n;have C:∀s∈i.ss,hg i s.key (0,0)=s.ad:=fun s g=>j.Il g (pb.2 ⟨rfl,(B s g).2⟩)
 have D:∀l c,(l,c)∈f.ks->c.aC.length=(hg i l (0,0)).length:=fun l c o=>by
  have :=j.FT n l;rw[FQ t o]at this;have :=this.length_eq;rw[ap2]at this;exact this
 have p:=arT i.ss Fl;have E:((q0 i.ss).map b9.key).Nodup:=((p.map b9.key).nodup_iff).2 z;apply Xc
 ·rw[List.perm_ext_iff_of_nodup]
  ·intro l;unfold o4;constructor
   ·intro q;obtain⟨⟨k,c⟩,o,rfl⟩:=ap5.1 q;obtain⟨F,I⟩:=aqL.1 o;have m:=D k c F;have e:0<c.aC.length:=by simpa using I
    rw[m]at e;obtain⟨h,L⟩:=List.exists_mem_of_length_pos e;obtain⟨s,g,M,N⟩:=agf L;refine ap5.2 ⟨s,aqL.2 ⟨p.mem_iff.2 g,?_⟩,(pb.1 M).1⟩;unfold l2;rw[N];simpa using e
   intro q;obtain⟨s,g,rfl⟩:=ap5.1 q;obtain⟨P,u⟩:=aqL.1 g;have Q:s∈i.ss:=p.mem_iff.1 P;have e:0<s.ad.length:=by unfold l2 at u;simpa using u
   have :=j.FT n s.key;rw[C s Q]at this;cases r:bC s.key f.ks with
   |none=>
    rw[r]at this;have :=this.length_eq;rw[ap2]at this;simp at this;omega
   |some c=>
    rw[r]at this;have v:=this.length_eq;rw[ap2]at v;refine ap5.2 ⟨(s.key,c),aqL.2 ⟨fL r,?_⟩,rfl⟩;have :c.aC.length=s.ad.length:=v;simp only[this];simpa using e
  ·exact(List.filter_sublist.map _).nodup t
  exact(List.filter_sublist.map _).nodup E
 rw[aqN];refine List.Pairwise.filter _ ?_;have m:(q0 i.ss).Pairwise fun a d=>Fl a d=true:=asw (fun a d c m e=>US ⟨a.key,a.id,.slice none 0 0,a.ad⟩ ⟨d.key,d.id,.slice none 0 0,d.ad⟩ ⟨c.key,c.id,.slice none 0 0,c.ad⟩ m e) (fun a d=>UT ⟨a.key,a.id,.slice none 0 0,a.ad⟩ ⟨d.key,d.id,.slice none 0 0,d.ad⟩) i.ss
 refine m.imp fun{a d} h=>Xd _ _ ?_
 unfold Fl hD at h;simpa using h
theorem aiR{R}(d:xj c e f h b R)(C:a<=3)(ih:Cg c e R a)(x:PId)(n:bt R x=some i)(p:i.list=false):
  O 141 #[Z e,.agg #[A x.1,A x.2],A (4-(a:Int))] c fun j M=>j=.returned (.string (vZ (ew R a) i.list (kg i)))/\J c M:=by
 have N:=aa ((apY c.heap.size c).alloc (apX _) (.cells #[A x.1,A x.2] 36));have c2:=aa (bI c (.cells #[A x.1,A x.2] 36));obtain⟨aV,D,E⟩:=d.ko.bh x i n;have bz:i.ss.length<=10000:=d.cnt x i n;have P:=aa (show O 169 #[Z e,.agg #[A x.1,A x.2]] (c.alloc (.cells #[A x.1,A x.2] 36)) _ from ae8 (d.q.ae N.o) x.1 x.2 D (d.Zj _ (fL D)) ri (fun W v l aF lv=>agA _ W v l aF lv) agz);rw[aiN (R:=R) d.jl D E p]at P;have Jb:=aa (show ∀s∈i.ss,∀W,J c W->O 167 #[Z e,.agg #[A x.1,A x.2,.string s.key,A 0,A 0],A (4-(a:Int))] W fun j M=>j=.returned (.string (qN (ew R a) s.ad))/\J W M from fun s o W ab=>by
  have Q:=E.keys p s o;have R1:hg i s.key (0,0)=s.ad:=E.Il o (pb.2 ⟨rfl,Q.2⟩);have ah:=(d.ko.zJ n p Q.1 (0,0)).2;rw[R1]at ah;exact Zk (d.ae ab) C (ih.ae ab) x.1 x.2 0 0 s.key s.ad (d.vl x i n s o).1 ah (Zl d.jl _ _ _) (d.nums x i n s o) (d.wE x i n s o) ((d.qo a C x i n).2 s o))
 have R0:=aa (show ∀s∈i.ss,s.key.size<=4/\(qN (ew R a) s.ad).size<=1000000000000 from fun s o=>⟨(d.vl x i n s o).2,(d.qo a C x i n).2 s o⟩);have kh:=(d.qo a C x i n).1;have Zm:kg i=q0 i.ss:=by unfold kg;rw[p];rfl
 have S:yL (ew R a) i.list (kg i)=lG comma (((q0 i.ss).filter l2).map (nf (ew R a) i.list)):=by rw[Zm];rfl
 have Jd:=aa (show(lG comma (((q0 i.ss).filter l2).map (nf (ew R a) i.list))).size<=140737488355328 by rw[<-S];omega);have I3:=aa S;have tQ:((q0 i.ss).filter l2).length<=10000:=ap0 (aqR _ _) (by unfold q0;rw[(arT i.ss Fl).length_eq];exact bz);have sI:=aa (show ∀s∈(q0 i.ss).filter l2,s∈i.ss from fun s o=>(arT i.ss Fl).mem_iff.1 (aqL.1 o).1);have ml:=aa p;have j6:∀s,nf (ew R a) i.list s=(s.key++colon)++qN (ew R a) s.ad:=fun s=>by unfold nf;rw[p,if_neg (by decide)]
 have IX:=aa j6;clear d ih D E bz kh S n p Zm j6;generalize cv:(q0 i.ss).filter l2=L at *;clear cv;go_enter func141,ntmps141;go_wp2_with fail
 refine P.o.mono ?_;rintro j t ⟨u,rfl,U,X⟩;have bW:=aa (bj c2.o X);have ay:=aa (N.o.trans (X.mono N.o.size));clear X;have hz1:=ay.o.size;obtain⟨kE,kF,rfl,va,sZ,iw⟩:=bm U;have gr:=aa U;clear U P;unfold maxLen at sZ;rw[ap2]at va;go_wp2_with fail
 go_loopw [7,14] (fun u m wr=>∃k:Nat,k<=L.length/\m=A k/\pR t.heap.size wr u ((L.take k).map (nf (ew R a) i.list))/\J t wr) (fun _ m _=>L.length-(intOf m).toNat)
 case atStart=>exact⟨0,apZ _,rfl,aqe _ _ _ _,apY _ _⟩
 case round=>
  obtain⟨k,Q,rfl,w,r⟩:=hrel;have sC:=r.size;have F:=aa (ay.o.trans (r.mono hz1));by_cases y:k<L.length
  ·obtain⟨g,rfl⟩:=iw k (by simpa using y);have I:=Qr gr.o k L[k].key (by simp[y]);rw[aqQ]at I;replace I:=ae r I;have cB:=aa (bj bW.o r);obtain⟨cy,bx⟩:=bl cB.o;have eX:=aN cB.o;have c9:=aqd wr _ I;have df:(k:Int)<(L.length:Int):=by omega
   have cR:=aa w;clear w;have gP:=aa r;clear r;obtain⟨dW,qZ⟩:=R0.o L[k] (sI.o _ (ap6 y));go_wp2_with fail
   refine(Zc _ _ _ _).mono ?_;rintro j w2 ⟨rfl,z⟩;have B:=aa z;clear z;have Jc:=aa (Jb.o L[k] (sI.o _ (ap6 y)) w2 (F.o.trans (B.o.mono F.o.size)));go_wp2_with fail
   refine Jc.o.mono ?_;rintro j Y ⟨rfl,bb⟩;have bB:=aa (B.o.trans (bb.mono B.o.size));clear bb;have mR:=bB.o.size;have js:=aa (show pR t.heap.size Y _ ((L.take k).map (nf (ew R a) i.list)) from c7 cR.o bB.o);have ku:((L.take k).map (nf (ew R a) i.list)).length=k:=by rw[ap2,aqg];omega
   go_wp2_with (at_builtin;go_must (refine LM rfl (.tmp 18) (.tmp 28) rfl t.heap.size _ ((L.take k).map (nf (ew R a) i.list)) rfl ?h1 Y.heap.size 1 ((L[k].key++colon)++qN (ew R a) L[k].ad) rfl ?h2 ?aL ?b1 ?_;(case h1=>exact arj js.o _);(case h2=>exact RH (bI Y _));(case aL=>omega);(case b1=>simp;omega);intro v' w4 wy dw;have j8:=aa dw;clear dw;have iY:=aa wy;clear wy))
   go_roundw
   case rel=>
    have gp:J t w4:=RX (gP.o.trans (bB.o.mono gP.o.size)) j8.o (by omega) fun g ag=>(ap1 js.o g ag).1
    exact⟨k+1,by omega,by go_num,by rw[EY _ y,IX.o L[k]];exact iY.o,gp⟩
   case measure=>simp[intOf];omega
  have ho:k=L.length:=by omega
  subst ho;rw[aql (apX _)]at w;have vK:=aa (Qs w comma (by rw[ap2];omega) Jd.o);clear w;go_wp2_with fail
  refine vK.o.mono ?_;rintro j w2 ⟨rfl,z⟩;have B:=aa (F.o.trans (z.mono F.o.size));clear z;have hjz:=Jd.o;clear vK;go_wp2;go_ret
  refine⟨A0 ?_,B.o⟩;unfold vZ;rw[I3.o,ml.o,if_neg (by decide)]
end
section
open Go.RowKit Tryz
attribute [local go_sem ↓] Go.wp_at_zero Go.wp_at_succ
variable {a b c:Nat}
theorem aiS{D:cX}{R:List bg}:∀(r:Nat),r<=4->∀w,xj w a b c D R->Cg w a R r:=by
 intro r
 induction r with
 |zero=>
  intro _ w h W s x o f;have g:=aa ((apY W.heap.size W).alloc (apX _) (.cells #[A x.1,A x.2] 36));have t:(5:Int)-((0:Nat):Int)=5:=by omega
  rw[t];clear h f;go_enter func88,ntmps88;go_wp2;go_ret
  exact⟨rfl,g.o⟩
 |succ r ih=>
  intro P w h W s x o f;have g:=aa ((apY W.heap.size W).alloc (apX _) (.cells #[A x.1,A x.2] 36));have B:=aa (bI W (.cells #[A x.1,A x.2] 36));have t:(5:Int)-((r+1:Nat):Int)=4-(r:Int):=by omega
  rw[t];have i:=h.ae s;have p:=aa (show O 90 #[Z a,.agg #[A x.1,A x.2]] (W.alloc (.cells #[A x.1,A x.2] 36)) fun e I=>e=.returned (.bool o.list)/\Below (W.alloc (.cells #[A x.1,A x.2] 36)).heap.size (W.alloc (.cells #[A x.1,A x.2] 36)) I from by
   rw[<-i.ko.aQ f];exact zl (i.q.ae g.o) x.1 x.2)
  have C:=aa (fun d (m:J W d) (l:o.list=true)=>aiM (i.ae m) (by omega) (ih (by omega) d (i.ae m)) x f l);have E:=aa (fun d (m:J W d) (l:o.list=false)=>aiR (i.ae m) (by omega) (ih (by omega) d (i.ae m)) x f l);have F:ew R (r+1) x=vZ (ew R r) o.list (kg o):=RW f r;rw[F];clear h i f ih F s;cases l:o.list
  ·rw[l]at p E;go_enter func88,ntmps88;go_wp2_with fail
   refine p.o.mono ?_;rintro e u ⟨rfl,j⟩;have v:=aa (bj B.o j);have k:=aa (g.o.trans (j.mono g.o.size));clear j;obtain⟨L,M⟩:=bl v.o;have y:=aa (E.o u k.o (by trivial));go_wp2_with fail
   refine y.o.mono ?_;rintro e N ⟨rfl,n⟩;have z:=aa (k.o.trans (n.mono k.o.size));clear n;go_wp2;go_ret
   exact⟨rfl,z.o⟩
  rw[l]at p C;go_enter func88,ntmps88;go_wp2_with fail
  refine p.o.mono ?_;rintro e u ⟨rfl,j⟩;have v:=aa (bj B.o j);have k:=aa (g.o.trans (j.mono g.o.size));clear j;obtain⟨L,M⟩:=bl v.o;have y:=aa (C.o u k.o (by trivial));go_wp2_with fail
  refine y.o.mono ?_;rintro e N ⟨rfl,n⟩;have z:=aa (k.o.trans (n.mono k.o.size));clear n;go_wp2;go_ret
  exact⟨rfl,z.o⟩
theorem aiT{w D R}(h:xj w a b c D R):
  O 55 #[Z a] w fun e g=>e=.returned (.string (ew R 4 (0,0)))/\J w g:=by
 obtain⟨o,d⟩:=h.root;have i:=aa (show O 88 #[Z a,.agg #[A 0,A 0],A 1] w _ from aiS 4 (by omega) w h w (apY _ _) (0,0) o d);clear h d;go_enter func55,ntmps55;go_wp2_with fail
 refine i.o.mono ?_;rintro e k ⟨rfl,f⟩;have j:=aa f;clear f;go_wp2;go_ret
 exact⟨rfl,j.o⟩
theorem aiU{w F I l M s x}(h:dL w b F I c l M s x)(g:a<c)(i:xj w (x.q a).d (x.q a).aB (x.q a).be (x.q a).D (cq (s.ops a))):
  O 28 #[Z b,A a] w fun e n=>e=.returned (.tuple #[.string (ew (cq (s.ops a)) 4 (0,0)),A 0])/\J w n:=by
 have p:=aa (RC h.m a g);have r:=aa (yw (h.m.eK a g));have t:=aa (fun W (u:J w W)=>aiT (i.ae u));clear h i;go_enter func28,ntmps28;go_wp2_with fail
 refine p.o.mono ?_;rintro e B ⟨rfl,v⟩;subst v;go_wp2_with fail
 refine r.o.mono ?_;rintro e y ⟨rfl,j⟩;have f:=aa j;clear j;go_wp2_with fail
 refine(t.o y f.o).mono ?_;rintro e C ⟨rfl,k⟩;have z:=aa (f.o.trans (k.mono f.o.size));clear k;go_wp2;go_ret2
 exact⟨rfl,z.o⟩
end
section
open Go.RowKit Tryz
variable {a c d q:Nat}{b:bg}{e:List bg}{f:Nat->List ar}{h n:Nat->Prop}{i:PId}{j:World}{k:b9}{l:bn}{m:cI}
def ea:List b9->Nat
 |[]=>0
 |s::l=>s.ad.length+ea l
theorem MV:∀(l m:List b9),ea (l++m)=ea l+ea m
 |[],m=>by simp[ea]
 |s::l,m=>by
  show s.ad.length+ea (l++m)=s.ad.length+ea l+ea m;rw[MV l m];omega
theorem aiV{l m:List b9}(h:l.Perm m):ea l=ea m:=by
 induction h with
 |nil=>rfl
 |cons x _ ih=>unfold ea;rw[ih]
 |swap x y l=>unfold ea;unfold ea;omega
 |trans _ _ a b=>exact a.trans b
theorem Zp(l:List b9)(k:Nat)(a:ByteArray)(x:PId):ea (nM l k (mH a x))=ea l:=by
 unfold nM;have h:=MV (l.take k) (l.drop k);rw[arI]at h;rw[MV,h];show _+(0+ea (l.drop k))=_;omega
theorem Zq(l:List b9)(k:Nat)(s:b9):(nM l k s).length=l.length+1:=by
 unfold nM;rw[ap4,aqk];have :=congrArg List.length (arI k l);rw[ap4]at this;omega
theorem Zr{f:b9->b9}(a:∀s,(f s).ad.length<=s.ad.length+1):∀(l:List b9) (k:Nat),ea (l.modify k f)<=ea l+1
 |[],k=>by simp[ea]
 |s::l,0=>by
  rw[asC];have :=a s;unfold ea;omega
 |s::l,k+1=>by
  rw[asD];have :=Zr a l k;unfold ea;omega
theorem R2{s:b9}:∀{l:List b9},s∈l->s.ad.length<=ea l
 |y::l,h=>by
  unfold ea;rcases aqb.1 h with rfl|h
  ·omega
  have :=R2 h;omega
theorem Zs(b:List PId)(a:List cP)(kind:Int)(y:cP):(jt b a kind y).length<=a.length+1:=by
 unfold jt;rw[ap4];have c:(unnamed b a).length<=a.length:=aqR _ _;have d:(if kind=3 then[y] else[]).length<=1:=by split <;>simp
 omega
theorem aiW(p:bH)(o:bg):ea (gq p o).ss<=ea o.ss+1/\(gq p o).ss.length<=o.ss.length+1:=by
 unfold gq;split
 ·split
  ·show ea (qe _ _ _)<=_/\(qe _ _ _).length<=_;unfold qe;split
   ·rw[Zp,Zq];omega
   split
   ·omega
   rw[Zp,Zq];omega
  omega
 split
 ·show ea (lx _ _ _ _ _ _ _)<=_/\(lx _ _ _ _ _ _ _).length<=_;unfold lx;split
  ·split
   ·omega
   have :=Zs p.old [] p.kind p.held;rw[MV,ap4];show ea o.ss+((jt p.old [] p.kind p.held).length+0)<=_/\_+1<=_;simp only[aqC]at this;omega
  rw[List.length_modify];exact⟨Zr (fun s=>Zs _ _ _ _) _ _,by omega⟩
 omega
theorem MW{p:bH}(a:bt (cc e p) i=some b):bt e i=some b\/b.ss=[]\/(p.kind≠1/\∃c,bt e i=some c/\b=gq p c):=by
 by_cases f:p.kind=1
 ·rw[yp f]at a;cases d:bt e i with
  |some c=>rw[d]at a;exact .inl a
  |none=>
   rw[d]at a;simp only at a;split at a
   ·cases a;exact .inr (.inl rfl)
   cases a
 rw[Bx f]at a;split at a
 ·cases d:bt e i with
  |none=>rw[d]at a;cases a
  |some c=>rw[d]at a;exact .inr (.inr ⟨f,c,rfl,by simpa using a.symm⟩)
 exact .inl a
theorem aiX{p:bH}(h:k∈(gq p b).ss):(∃s0∈b.ss,s0.key=k.key)\/k.key=p.key\/k.key=⟨#[]⟩:=by
 unfold gq at h;split at h
 ·split at h
  ·rcases IU h with h|rfl
   ·exact .inl ⟨k,h,rfl⟩
   exact .inr (.inr rfl)
  exact .inl ⟨k,h,rfl⟩
 split at h
 ·unfold lx at h;simp only at h;split at h
  ·split at h
   ·exact .inl ⟨k,h,rfl⟩
   rcases ap7.1 h with h|h
   ·exact .inl ⟨k,h,rfl⟩
   obtain rfl:=ap9.1 h;exact .inr (.inl rfl)
  rcases Gk h with h|⟨s0,a,rfl⟩
  ·exact .inl ⟨k,h,rfl⟩
  exact .inl ⟨s0,a,rfl⟩
 exact .inl ⟨k,h,rfl⟩
theorem Zt{c:List PId}{b:List cP}{kind:Int}{y h:cP}(a:h∈jt c b kind y):h∈b\/(kind=3/\h=y):=by
 unfold jt at a;rcases ap7.1 a with a|a
 ·exact .inl (aqL.1 a).1
 split at a
 ·rename_i d
  exact .inr ⟨d,by simpa using a⟩
 cases a
theorem Zu{p:bH}(h:k∈(gq p b).ss){y:cP}(a:y∈k.ad):(∃s0∈b.ss,y∈s0.ad)\/(p.kind=3/\y=p.held):=by
 unfold gq at h;split at h
 ·split at h
  ·rcases IU h with h|rfl
   ·exact .inl ⟨k,h,a⟩
   cases a
  exact .inl ⟨k,h,a⟩
 split at h
 ·unfold lx at h;simp only at h;split at h
  ·split at h
   ·exact .inl ⟨k,h,a⟩
   rcases ap7.1 h with h|h
   ·exact .inl ⟨k,h,a⟩
   obtain rfl:=ap9.1 h;rcases Zt a with c|c
   ·cases c
   exact .inr c
  rcases Gk h with h|⟨s0,d,rfl⟩
  ·exact .inl ⟨k,h,a⟩
  rcases Zt a with c|c
  ·exact .inl ⟨s0,d,c⟩
  exact .inr c
 exact .inl ⟨k,h,a⟩
structure ps (R:List bg) (n:Nat):Prop where
 nums:∀x o,bt R x=some o->∀s∈o.ss,∀h∈s.ad,k7 h.num
 wE:∀x o,bt R x=some o->∀s∈o.ss,∀h∈s.ad,∃o',bt R h.obj=some o'
 Je:∀x o,bt R x=some o->∀s∈o.ss,s.key.size<=4
 cnt:∀x o,bt R x=some o->ea o.ss<=n/\o.ss.length<=n
theorem ps.mu{R}(h:ps R a){p:bH}(k:p.kind=3->k7 p.num/\∃o,bt R p.obj=some o)(l:p.key.size<=4):ps (cc R p) (a+1):=by
 refine⟨fun x o b s c y d=> ?_,fun x o b s c y d=> ?_,fun x o b s c=> ?_,fun x o b=> ?_⟩
 ·rcases MW b with b|b|⟨_,f,g,rfl⟩
  ·exact h.nums x o b s c y d
  ·rw[b]at c;cases c
  rcases Zu c d with⟨s0,i,d⟩|⟨j,rfl⟩
  ·exact h.nums x f g s0 i y d
  exact(k j).1
 ·apply Gl;rcases MW b with b|b|⟨_,f,g,rfl⟩
  ·exact h.wE x o b s c y d
  ·rw[b]at c;cases c
  rcases Zu c d with⟨s0,i,d⟩|⟨j,rfl⟩
  ·exact h.wE x f g s0 i y d
  exact(k j).2
 ·rcases MW b with b|b|⟨_,f,g,rfl⟩
  ·exact h.Je x o b s c
  ·rw[b]at c;cases c
  rcases aiX c with⟨s0,i,e⟩|e|e
  ·rw[<-e];exact h.Je x f g s0 i
  ·rw[e];exact l
  rw[e];exact apZ _
 rcases MW b with b|b|⟨_,f,g,rfl⟩
 ·have :=h.cnt x o b;omega
 ·rw[b];exact⟨apZ _,apZ _⟩
 have m:=h.cnt x f g;have n:=aiW p f;omega
theorem ps.root:ps c4 0:=by
 have b:∀x o,bt c4 x=some o->o.ss=[]:=fun x o h=>by
  unfold bt c4 at h;simp only[arK,List.find?_nil]at h;split at h
  ·cases h;rfl
  cases h
 refine⟨fun x o h s a=> ?_,fun x o h s a=> ?_,fun x o h s a=> ?_,fun x o h=> ?_⟩
 ·rw[b x o h]at a;cases a
 ·rw[b x o h]at a;cases a
 ·rw[b x o h]at a;cases a
 rw[b x o h];exact⟨apX _,apX _⟩
def tA (p:bH):Prop:=k7 p.num/\p.key.size<=4
theorem ps.all:∀(S:List bH) (R:List bg) (I M:List PId) (n:Nat),ps R n->(∀x∈M,∃o,bt R x=some o)->Ei I M S->(∀p∈S,tA p)->ps (S.foldl cc R) (n+S.length)
 |[],_,_,_,_,h,_,_,_=>h
 |p::S,R,I,M,n,h,b,f,d=>by
  obtain⟨l,m,r,s,g,i⟩:=f;have e:=d p aqf;have j:=h.mu (p:=p) (fun c=>⟨e.1,b _ (g c)⟩) e.2;rw[arE,aqk,show n+(S.length+1)=(n+1)+S.length by omega];refine ps.all S (cc R p) _ _ (n+1) j (fun x a=> ?_) i fun q k=>d q (aqh _ k)
  split at a
  ·rename_i c
   rcases aqb.1 a with rfl|a
   ·exact Yt c
   exact Gl p (b x a)
  exact Gl p (b x a)
theorem Zv(c:ByteArray)(b:ByteArray->Nat):∀(l:List ByteArray),(lG c l).size<=(l.map fun y=>y.size+c.size).sum:=by
 intro l;cases l with
 |nil=>exact apZ _
 |cons x l=>
  have :∀(l:List ByteArray) (a:ByteArray),(l.foldl (fun s y=>(s++c)++y) a).size=a.size+(l.map fun y=>y.size+c.size).sum:=by
   intro l
   induction l with
   |nil=>intro a;simp
   |cons y l ih=>
    intro a;rw[arE,ih,kA,kA,aqj,List.sum_cons];omega
  show(l.foldl (fun s y=>(s++c)++y) x).size<=_;rw[this,aqj,List.sum_cons];omega
theorem Zw {α:Type} (f:α->Nat) (B:Nat):∀(l:List α),(∀x∈l,f x<=B)->(l.map f).sum<=l.length*B
 |[],_=>by simp
 |x::l,h=>by
  rw[aqj,List.sum_cons,aqk,ar0];have b:=h x aqf;have c:=Zw f B l fun y a=>h y (aqh _ a)
  omega
theorem aiY(a:PId->ByteArray)(B:Nat)(b:∀x,(a x).size<=B)(l:List cP)(c:∀h∈l,k7 h.num):(qN a l).size<=l.length*(B+22):=by
 unfold qN;refine ap0 (Zv bar (fun _=>0) _) ?_;rw[aqO];have :=Zw ((fun y:ByteArray=>y.size+bar.size)∘kP a) (B+22) (uP l) fun h d=>by
  show(kP a h).size+1<=_;unfold kP;split
  ·have :=agh h.num (c h (RV.1 d));omega
  have :=b h.obj;omega
 rw[Zh]at this;exact this
theorem Zx(a:PId->ByteArray)(b:Bool)(B:Nat):∀(M:List b9),(∀s∈M,s.key.size<=4/\(qN a s.ad).size<=s.ad.length*(B+22))->(((M.filter l2).map (nf a b)).map fun y=>y.size+1).sum<=M.length*6+ea M*(B+22)
 |[],_=>by simp
 |s::M,h=>by
  have ih:=Zx a b B M fun y c=>h y (aqh _ c)
  obtain⟨e,f⟩:=h s aqf;have g:(nf a b s).size<=5+s.ad.length*(B+22):=by
   unfold nf;have i:colon.size=1:=rfl;split
   ·omega
   rw[kA,kA];omega
  have d:ea (s::M)*(B+22)=s.ad.length*(B+22)+ea M*(B+22):=by
   show(s.ad.length+ea M)*(B+22)=_;rw[aqZ]
  rw[d,aqk,ar3];split
  ·rw[aqj,aqj,List.sum_cons];omega
  omega
theorem aiZ(a:PId->ByteArray)(b:Bool)(B:Nat)(M:List b9)(h:∀s∈M,s.key.size<=4/\(qN a s.ad).size<=s.ad.length*(B+22)):(yL a b M).size<=M.length*6+ea M*(B+22):=by
 unfold yL;exact ap0 (Zv comma (fun _=>0) _) (Zx a b B M h)
def lL:Nat->Nat
 |0=>1
 |r+1=>2+240*(28+lL r)
theorem ai0(b:a<=3):240*(28+lL a)<=100000000000:=by
 have c:lL 0=1:=rfl;have d:lL 1=2+240*(28+lL 0):=rfl;have e:lL 2=2+240*(28+lL 1):=rfl;have f:lL 3=2+240*(28+lL 2):=rfl;have :a=0\/a=1\/a=2\/a=3:=by omega
 rcases this with rfl|rfl|rfl|rfl<;>omega
theorem ps.Zy(h:ps e d)(f:∀i,(ew e c i).size<=a)(g:bt e i=some b)(j:k∈b.ss):(qN (ew e c) k.ad).size<=k.ad.length*(a+22):=aiY _ a f _ (h.nums i b g k j)
theorem ps.Zz(h:ps e d)(m:d<=240)(k:∀i,(ew e c i).size<=a)(g:bt e i=some b):(yL (ew e c) b.list (kg b)).size<=240*(28+a):=by
 have f:(kg b).Perm b.ss:=by
  unfold kg q0;split
  ·exact .refl _
  exact arT _ _
 have l:=aiZ (ew e c) b.list a (kg b) fun s j=>⟨h.Je i b g s (f.mem_iff.1 j),h.Zy k g (f.mem_iff.1 j)⟩
 rw[f.length_eq,aiV f]at l;obtain⟨n,o⟩:=h.cnt i b g;have p:ea b.ss*(a+22)<=240*(a+22):=aqV _ (by omega);omega
theorem ps.ZA(h:ps e a)(c:a<=240)(r:Nat):∀x:PId,(ew e r x).size<=lL r:=by
 induction r with
 |zero=>exact fun x=>apX 1
 |succ r ih=>
  intro x;cases b:bt e x with
  |none=>
   show(match bt e x with |some o=>vZ (ew e r) o.list (kg o)|none=>⟨#[]⟩).size<=_;rw[b];exact apZ _
  |some o=>
   rw[RW b];have :=h.Zz c ih b;show _<=2+240*(28+lL r);unfold vZ;have d:(⟨#[91]⟩:ByteArray).size=1:=rfl;have f:(⟨#[93]⟩:ByteArray).size=1:=rfl;have g:(⟨#[123]⟩:ByteArray).size=1:=rfl;have i:(⟨#[125]⟩:ByteArray).size=1:=rfl;split <;>simp only[kA]<;>omega
theorem ZB {κ ν:Type} [DecidableEq κ] (x:κ) (v:ν):∀m:List (κ×ν),(cE x v m).length<=m.length+1
 |[]=>by simp[cE]
 |p::m=>by
  unfold cE;split
  ·simp
  have :=ZB x v m;simp;omega
theorem ai1{m o}{D:cX}(h:∀p∈D.1,p.2.ks.length<=a)(d:mS D o m):∀p∈m.1,p.2.ks.length<=a+1:=by
 have e:∀p∈D.1,p.2.ks.length<=a+1:=fun p c=>Nat.le_succ_of_le (h p c)
 have q:∀{f x:PId} {i:ByteArray} {v:Option Nat} {j:List (PId×dU)},Bl D f i x v j m->∀p∈m.1,p.2.ks.length<=a+1:=by
  intro f x i v j k p c;rcases k with⟨_,y,z,rfl⟩|⟨_,B,g,r,n,s,rfl⟩
  ·exact e p c
  rcases ox c with c|rfl
  ·exact e p c
  have C:=ZB i (⟨v,j⟩:q4) r;have t:=h _ (fL n);have E:=s.length_eq;show(cE i (⟨v,j⟩:q4) r).length<=a+1;simp only at t;omega
 obtain⟨id,F,u⟩:=o;rcases u with l|⟨x,b⟩|⟨f,i,x,I,w⟩|⟨f,i,x,w⟩
 ·simp only[mS]at d;subst d;intro p c;rcases ox c with c|rfl
  ·exact e p c
  exact apZ _
 ·simp only[mS]at d;subst d;unfold mv;split
  ·exact e
  rename_i f n
  split
  ·exact e
  split
  ·intro p c;rcases ox c with c|rfl
   ·exact e p c
   exact(show f.ks.length<=a+1 from e (x,f) (fL n))
  split
  ·exact e
  split
  ·exact e
  exact e
 ·simp only[mS,Bn]at d;split at d
  ·obtain⟨v,j,c,k⟩:=d;exact q k
  subst d;exact e
 simp only[mS,Bm]at d;split at d
 ·obtain⟨v,j,c,k⟩:=d;exact q k
 subst d;exact e
theorem ZC:∀(l:List nU) {D a:cX} {n:Nat},(∀p∈D.1,p.2.ks.length<=n)->mT D l a->∀p∈a.1,p.2.ks.length<=n+l.length
 |[],D,a,n,h,b=>by
  have e:a=D:=b;subst e;exact h
 |o::l,D,a,n,h,b=>by
  obtain⟨g,c,d⟩:=b;have :=ZC l (ai1 h c) d;intro p f;have :=this p f;rw[aqk];omega
def Jg (N:Nat) (M:Nat->List ar):Prop:=∀c,c<N->∀o∈M c,tA (e4 o.op)
theorem ZD:∀(S:List bH) (R:List bg),(∃o,bt R (0,0)=some o)->∃o,bt (S.foldl cc R) (0,0)=some o
 |[],_,h=>h
 |p::S,R,h=>ZD S (cc R p) (Gl p h)
theorem dL.nice(b:dL j d h n c q f l m)(i:Jg c f)(g:a<c):ps (cq (l.ops a)) (l.ops a).length:=by
 have :=ps.all ((l.ops a).map fun o=>e4 o.op) c4 [] [(0,0)] 0 ps.root (fun m k=>by
  obtain rfl:=ap9.1 k;exact⟨⟨(0,0),false,[]⟩,rfl⟩) (YU b.ok.made b.md (b.ok.copy a g) (b.ok.jB a g)) fun p r=>by
   obtain⟨o,s,rfl⟩:=ap5.1 r;obtain⟨e,t,u⟩:=(b.ok.copy a g).made s;exact i e t o u
 rw[ap2,aqQ]at this;exact this
theorem dL.txt{I N E M x}(e:dL j c h I N E M l x)(t:Pow j)(F:Jg N M)(r:a<N):xj j (x.q a).d (x.q a).aB (x.q a).be (x.q a).D (cq (l.ops a)):=by
 obtain⟨L,P,W⟩:=e.doc r;have i:=e.nice F r;have v:=e.len r;have w:=(e.m.eK a r).jT.did;rw[<-ap2 (f:=fun o:ar=>o.op),ari]at w;obtain⟨_,_,Q,R⟩:=e.m.ko a r;have z:mT (x.q a).D0.1 ((x.q a).D0.2++(l.kept a).map (·.op)) (x.q a).D:=w;rw[R,<-aqi,<-e.m.l3 a r]at z;have B:=ZC _ (n:=0) (fun p t=>by rw[Q p t];exact apX _) z;rw[ap2]at B;refine⟨(e.m.eK a r).jT.q,L,P,t,ZD _ _ ⟨⟨(0,0),false,[]⟩,rfl⟩,i.nums,i.wE,fun p S=>by have :=B p S;omega,fun y o k=>by have :=(i.cnt y o k).2;omega,fun y o k u s=>⟨by have g:=(i.cnt y o k).1;have b:=R2 s;omega,i.Je y o k u s⟩,fun c U y o k=> ?_⟩;have C:=i.ZA v c;have X:=ai0 U;refine⟨ap0 (i.Zz v C k) (by omega),fun u s=>ap0 (i.Zy C k s) ?_⟩;have g:=(i.cnt y o k).1;have b:=R2 s;have :u.ad.length*(lL c+22)<=240*(lL c+22):=aqV _ (by omega);omega
theorem ai2(b:dL j d h n a q f l m)(i:Pow j)(k:Jg a f)(g:c<a):O 28 #[Z d,A c] j fun e o=>e=.returned (.tuple #[.string (ew (cq (l.ops c)) 4 (0,0)),A 0])/\J j o:=aiU b g (b.txt i k g)
end
section
variable {a:List PId}{b:PId}{c:bg}
def pt (R:List bg) (pre:List PId):Prop:=∀o∈R,∀s∈o.ss,(s.ad.Pairwise fun a b=>e2 a.cQ b.cQ=true)/\∀h∈s.ad,h.cQ∈pre
theorem ZE{e:List cP}{pre:List PId}{kind:Int}{y:cP}(h:(e.Pairwise fun c b=>e2 c.cQ b.cQ=true)/\∀h∈e,h.cQ∈pre)(i:∀q∈pre,e2 q y.cQ=true):((jt a e kind y).Pairwise fun c b=>e2 c.cQ b.cQ=true)/\∀h∈jt a e kind y,h.cQ∈pre++[y.cQ]:=by
 have f:(unnamed a e).Sublist e:=by unfold unnamed;exact List.filter_sublist
 unfold jt;refine⟨arc.2 ⟨h.1.sublist f,by split <;>simp,fun c j b g=> ?_⟩,fun x d=> ?_⟩
 ·split at g
  ·obtain rfl:=ap9.1 g;exact i _ (h.2 c (f.subset j))
  cases g
 rcases ap7.1 d with d|d
 ·exact aq3 _ (h.2 x (f.subset d))
 split at d
 ·obtain rfl:=ap9.1 d;exact arW _ aqf
 cases d
theorem ai3{l:List b9}{c:Bool}{d:ByteArray}{kind:Int}{y:cP}{s:b9}(h:s∈lx l c d b a kind y):s∈l\/s.ad=jt a [] kind y\/∃s0∈l,s.ad=jt a s0.ad kind y:=by
 unfold lx at h;split at h
 ·split at h
  ·exact .inl h
  rcases ap7.1 h with h|h
  ·exact .inl h
  obtain rfl:=ap9.1 h;exact .inr (.inl rfl)
 rcases Gk h with h|⟨e,f,rfl⟩
 ·exact .inl h
 exact .inr (.inr ⟨e,f,rfl⟩)
theorem pt.mu{R pre}(h:pt R pre)(p:bH)(i:∀q∈pre,e2 q p.id=true):pt (cc R p) (pre++[p.id]):=by
 have mono:∀{s:b9},((s.ad.Pairwise fun a b=>e2 a.cQ b.cQ=true)/\∀h∈s.ad,h.cQ∈pre)->((s.ad.Pairwise fun a b=>e2 a.cQ b.cQ=true)/\∀h∈s.ad,h.cQ∈pre++[p.id]):=fun{s} j=>⟨j.1,fun x f=>aq3 _ (j.2 x f)⟩
 intro o d s c;unfold cc at d;split at d
 ·rcases ap7.1 d with d|d
  ·exact mono (h o d s c)
  obtain rfl:=ap9.1 d;cases c
 split at d
 ·exact mono (h o d s c)
 rcases Gk d with d|⟨y,k,rfl⟩
 ·exact mono (h o d s c)
 have g:=h y k;unfold gq at c;split at c
 ·split at c
  ·rcases IU c with c|rfl
   ·exact mono (g s c)
   exact⟨List.Pairwise.nil,fun x f=>by cases f⟩
  exact mono (g s c)
 split at c
 ·rcases ai3 c with c|e|⟨s0,l,e⟩
  ·exact mono (g s c)
  ·rw[e];exact ZE (y:=p.held) ⟨List.Pairwise.nil,fun x f=>(by cases f)⟩ i
  rw[e];exact ZE (y:=p.held) (g s0 l) i
 exact mono (g s c)
theorem pt.all:∀(S:List bH) {R:List bg} {pre:List PId},pt R pre->(∀q∈pre,∀p∈S,e2 q p.id=true)->(S.Pairwise fun a b=>e2 a.id b.id=true)->pt (S.foldl cc R) (pre++S.map (·.id))
 |[],R,pre,h,_,_=>by simpa using h
 |p::S,R,pre,h,d,f=>by
  obtain⟨g,i⟩:=aqU.1 f;have :=pt.all S (h.mu p fun q c=>d q c p aqf) (fun q c r e=>by
   rcases ap7.1 c with c|c
   ·exact d q c r (aqh _ e)
   obtain rfl:=ap9.1 c;exact g r e) i
  rw[arE,aqj];rw[aqs]at this;exact this
theorem pt.of{c}(d:qA c):pt (cq c) (c.map fun o=>o.op.id):=by
 have :=pt.all (c.map fun o=>e4 o.op) (R:=c4) (pre:=[]) (fun o f s g=>by
  obtain rfl:=ap9.1 f;cases g) (fun q i=>by cases i) (aqN.2 (d.imp fun{a b} h=>by rw[p3,p3];exact h))
 rw[aqK,aqO]at this;have e:(fun x=>x.id)∘(fun o:ar=>e4 o.op)=fun o=>o.op.id:=by
  funext o;exact p3 o.op
 rw[e]at this;exact this
theorem pt.Ch{R}(h:pt R a)(e:bt R b=some c)(d:ByteArray)(y:PId):mX ((hg c d y).map (·.cQ)):=by
 unfold hg;cases f:c.ss.find? (fk d y) with
 |none=>exact List.Pairwise.nil
 |some s=>exact aqN.2 (h c (arz e) s (arz f)).1
theorem ai4{l:List cP}(h:l.Pairwise fun a b=>e2 a.cQ b.cQ=true):uP l=l:=by
 unfold uP;refine List.mergeSort_of_pairwise (h.imp fun{a b} h=> ?_);unfold yK;cases e:e2 b.cQ a.cQ
 ·rfl
 have :=BE h e;rw[uw]at this;cases this
theorem ai5{R:List bg}(a:bt R b=some c):∀r:Nat,0<(ew R r b).size
 |0=>by show 0<(1:Nat);omega
 |r+1=>by
  rw[RW a];unfold vZ;split
  ·rw[kA,kA];show 0<1+_+1;omega
  rw[kA,kA];show 0<1+_+1;omega
theorem ZF(a:PId->ByteArray)(l:List cP):lU a l=lG bar (l.map (kP a)):=by
 cases l with
 |nil=>rfl
 |cons h l=>
  show l.foldl (fun s x=>(s++bar)++kP a x) (kP a h)=(l.map (kP a)).foldl (fun s y=>(s++bar)++y) (kP a h);rw[List.foldl_map]
theorem ZG{s:b9}(h:s∈kg c):s∈c.ss:=by
 unfold kg at h;split at h
 ·exact h
 unfold q0 at h;exact List.mem_mergeSort.1 h
theorem pt.text{R g n}(h:pt R g)(d:ps R n):∀(r:Nat) (x:PId),q2 R r x=ew R r x
 |0,_=>rfl
 |r+1,x=>by
  unfold q2 ew;show(match bt R x with |some o=>zf (q2 R r) o.list (kg o)|none=>⟨#[]⟩)=_;cases f:bt R x with
  |none=>rfl
  |some o=>
   have ih:q2 R r=ew R r:=funext fun y=>pt.text h d r y
   show zf (q2 R r) o.list (kg o)=vZ (ew R r) o.list (kg o);rw[ih];have i:∀s∈o.ss,qN (ew R r) s.ad=lU (ew R r) s.ad:=fun s a=>by
    unfold qN;rw[ai4 (h o (arz f) s a).1,ZF]
   have j:mN (ew R r) o.list (kg o)=yL (ew R r) o.list (kg o):=by
    rw[agn]
    ·unfold yL;congr 1;refine arx fun s a=> ?_
     have b:=ZG (aqL.1 a).1;unfold yt nf;rw[i s b]
    intro s a c;have b:=ZG a;have k:0<(lU (ew R r) s.ad).size:=by
     rw[ZF];refine W0 bar ?_ fun y l=> ?_
     ·unfold l2 at c;intro e;have :s.ad=[]:=List.map_eq_nil_iff.1 e;rw[this]at c;simp at c
     obtain⟨q,m,rfl⟩:=ap5.1 l;unfold kP;split
     ·exact agj _
     obtain⟨t,p⟩:=d.wE x o f s b q m;exact ai5 p r
    unfold yt;split
    ·exact k
    rw[kA];omega
   unfold zf vZ;rw[j]
end
section
open Go.RowKit Tryz
attribute [local go_sem ↓] Go.wp_at_zero Go.wp_at_succ
theorem Stepped.trans{r N sp F I c d e f W g i a q j s l t m}{h:World}(u:Stepped r N sp F I W g a q s c d t)(n:J g h)(v:Stepped r N sp c d h i a j l e f m):Stepped r N sp F I W i a j l e f m:=by
 obtain⟨E,L,o,w,x⟩:=u;obtain⟨y,z,B,C,D⟩:=v;refine⟨y,z,(o.after n).trans B,fun k b=>C k (w k b),fun k b=> ?_⟩;rcases D k b with p|p
 ·exact x k p
 exact .inr (by have :=o.size;have :=n.size;omega)
theorem R3{W:World}{a b c:Nat}{d e f g h i:Value}{m n o:TypeId}(j:W.heap[a]?=some (.cells #[d,e] m (0,0)))(k:W.heap[b]?=some (.cells #[f,g] n (0,0)))(l:W.heap[c]?=some (.cells #[h,i] o (0,0))):W.cell? (H a)=some d/\W.cell? (K a 1)=some e/\W.cell? (H b)=some f/\W.cell? (K b 1)=some g/\W.cell? (H c)=some h/\W.cell? (K c 1)=some i:=⟨(bl j).1,(bl j).2,(bl k).1,(bl k).2,(bl l).1,(bl l).2⟩
def ai6 (r N f:Nat) (F I:Nat->Prop) (M:Nat->List ar) (s:bn) (x:cI) (c:Nat) (a d i:Int) (g:Bool) (w:World) (e:Ending) (h:World):Prop:=
 (∃m,(iF (cq (s.ops c)) (a,d)=.error m\/(m=7/\∃o,bt (cq (s.ops c)) (a,d)=some o/\o.list=true/\jN (dB o) i=none)\/(m=8/\(∃o b,bt (cq (s.ops c)) (a,d)=some o/\o.list=true/\jN (dB o) i=some b)/\¬s.has c c+3<=60))/\e=.returned (.tuple #[.agg #[A 0,A 0],A m])/\qM r N f F I w h x.eo M s)\/
 (∃o b t v,bt (cq (s.ops c)) (a,d)=some o/\o.list=true/\jN (dB o) i=some b/\s.has c c+3<=60/\e=.returned (.tuple #[.agg #[A (s.gt c+1),A c],A 0])/\
  RQ r N f F I w h x.eo (nF M s c (.inl g) t v) (fg s c (.inl g) t v) c (.inr (.inl ((a,d),b))) (a,d) ⟨#[]⟩ (s.gt c+2,(c:Int)) (0,(s.gt c+1,(c:Int))))
theorem ai7{w r F I N sp M s x}(h:dL w r F I N sp M s x){c:Nat}(l:c<N)(d f i:Int)(j:Bool):
  O 99 #[Z r,A c,.agg #[A d,A f],A i,.bool j] w fun e w'=>ai6 r N sp F I M s x c d f i j w e w':=by
 have aK:=aa (((apY w.heap.size w).alloc (apX _) (.cells #[A d,A f] 36)).alloc (by simp) (.cells #[A 0,A 0] 36));have c2:=aa (show((w.alloc (.cells #[A d,A f] 36)).alloc (.cells #[A 0,A 0] 36)).heap[w.heap.size]?=some (.cells #[A d,A f] 36 (0,0)) from(hK _ _ (by simp)).trans (bI w _));have l7:=aa (show((w.alloc (.cells #[A d,A f] 36)).alloc (.cells #[A 0,A 0] 36)).heap[w.heap.size+1]?=some (.cells #[A 0,A 0] 36 (0,0)) from(by
  have :=bI (w.alloc (.cells #[A d,A f] 36)) (.cells #[A 0,A 0] 36);rw[show(w.alloc (.cells #[A d,A f] 36)).heap.size=w.heap.size+1 by simp]at this;exact this))
 have bY:=aa (Ze (h.ae aK.o) c l d f i);have gx:=aa (show ∀k,w.heap.size<=k->¬F k from fun k hk hF=>by have :=h.m.lt k hF;omega);have bJ:=aa (fun W (z:J w W)=>Iv ((h.ae z).m.eK c l) 3 (by omega));have oF:=aa (fun W (z:J w W)=>YV ((h.ae z).m.eK c l) (h.uN l) j);have o7:=aa (fun W (z:J w W) (w':World) (B:s.has c c<60) hw=>(h.ae z).step (w':=w') l B (chg:=.inl j) trivial hw);have az:=aa h;clear h;go_enter func99,ntmps99;go_wp2_with fail
 refine bY.o.mono ?_;rintro e w1 ⟨aq,dX⟩;have bW:=aa (bj c2.o aq);have dM:=aa (bj l7.o aq);have L:=aa (aK.o.trans (aq.mono aK.o.size));clear aq;have hz1:=L.o.size;have vq:=aN dM.o;have wG:=aa (show ∀W,J w W->∀a b,qM r N sp F I w ((W.setCell (H (w.heap.size+1)) a).setCell (K (w.heap.size+1) 1) b) x.eo M s from fun W z a b=>az.o.left ((z.setCell (show w.heap.size<=w.heap.size+1 by omega) _).setCell (show w.heap.size<=w.heap.size+1 by omega) _));rcases dX with⟨m,hm,P,rfl⟩|⟨o,af,bz,ej,⟨hi,rfl⟩|⟨b,hi,rfl⟩⟩
 ·have cT:=aa P;clear P;obtain⟨Q,R⟩:=bl dM.o;have nQ:=cG dM.o;rcases hm with rfl|rfl
  ·go_wp2;refine bodyPost_ret (v:=.tuple #[.agg #[A 0,A 0],A 3]) (by simp[results,results99,go_sem,Q,R]) rfl ?_;exact(show _\/_ from .inl ⟨3,.inl cT.o,rfl,wG.o _ L.o _ _⟩)
  go_wp2;refine bodyPost_ret (v:=.tuple #[.agg #[A 0,A 0],A 4]) (by simp[results,results99,go_sem,Q,R]) rfl ?_;exact(show _\/_ from .inl ⟨4,.inl cT.o,rfl,wG.o _ L.o _ _⟩)
 ·have cT:=aa (And.intro af (And.intro bz hi));clear af bz ej hi;obtain⟨Q,R⟩:=bl dM.o;have nQ:=cG dM.o;go_wp2;refine bodyPost_ret (v:=.tuple #[.agg #[A 0,A 0],A 7]) (by simp[results,results99,go_sem,Q,R]) rfl ?_;exact(show _\/_ from .inl ⟨7,.inr (.inl ⟨rfl,o,cT.o⟩),rfl,wG.o _ L.o _ _⟩)
 have C:=aa (And.intro af (And.intro bz hi));clear af bz hi ej;go_wp2_with fail
 refine(bJ.o _ L.o).mono ?_;rintro e w2 ⟨rfl,aY⟩;have cB:=aa (bj bW.o aY);have jD:=aa (bj dM.o aY);have bd:=aa (L.o.trans (aY.mono L.o.size));clear aY;have lX:=aN jD.o;obtain⟨Q,R⟩:=bl jD.o;have nQ:=cG jD.o;by_cases B:s.has c c+3<=60
 ·have ai:decide (s.has c c+((3:Nat):Int)<=60)=true:=decide_eq_true B;rw[ai];have S:=aa B;clear Q R nQ B ai;go_wp2_with fail
  refine(oF.o w2 bd.o).mono ?_;rintro e y ⟨rfl,gn⟩;obtain⟨t,v,iK,ln,iP,al⟩:=o7.o w2 bd.o y (by have :=S.o;omega) gn;have n:=aa al;clear gn al;have ek:=aa ((n.o.2.2.1.other _ (aN cB.o) (gx.o _ (apX _))).trans cB.o);have p4:=aa ((n.o.2.2.1.other _ (aN jD.o) (gx.o _ (by omega))).trans jD.o);have U:=aa ((apY y.heap.size y).alloc (apX _) (.cells #[A (s.gt c+1),A c] 36));have oy:=aa (bI y (.cells #[A (s.gt c+1),A c] 36));have DZ:(fg s c (.inl j) t v).has c c=s.has c c+1:=by
   show upd s.has c (upd (s.has c) c (s.has c c+1)) c c=_;rw[bF,bF]
  have dj:(fg s c (.inl j) t v).gt c=s.gt c+1:=by
   show upd s.gt c (s.gt c+1) c=_;rw[bF]
  have mA:bt (cq ((fg s c (.inl j) t v).ops c)) (d,f)=some o:=by
   have aj:(fg s c (.inl j) t v).ops c=s.ops c++[kk c (s.gt c) (s.has c) (.inl j) t v]:=by unfold fg l5;simp only[bF]
   rw[aj];unfold cq;rw[aqi,ara];show bt (cc (cq (s.ops c)) (e4 (kk c (s.gt c) (s.has c) (.inl j) t v).op)) (d,f)=some o;rw[yp rfl,C.o.1]
  have ZI:=aa ((Y0 ((n.o.1.ae U.o).m.eK c l) (n.o.1.uN l) (n.o.1.ko l) mA C.o.2.1 (n.o.1.hr l mA C.o.2.1) i C.o.2.2).mono fun e w' ax=>show e=.returned (.agg #[A (s.gt c+1+1),A c])/\_ from⟨ax.1.trans (by rw[dj]),ax.2⟩);rw[n.o.2.1]at ZI;have MX:=aa (bj ek.o U.o);obtain⟨e7,gm⟩:=bl MX.o;have Ja:=aN MX.o;have qb:=aa (And.intro DZ dj);clear mA DZ dj;have pM:=World.new_ne y (V w 0) (bl ek.o).1;go_wp2_with fail
  refine ZI.o.mono ?_;rintro e E ⟨rfl,gQ⟩;rw[<-n.o.2.1]at gQ;obtain⟨t1,v1,jk,n3,MS,aL⟩:=(n.o.1.ae U.o).step (w':=E) l (by rw[qb.o.1];have :=S.o;omega) (chg:=.inr (.inl ((d,f),b))) trivial gQ;rw[n.o.2.1]at aL;have p:=aa aL;have ai8:=aa (n.o.trans U.o p.o);clear gQ aL e7 gm Ja pM;have zH:=p.o.2.2.1.size;have mR:=n.o.2.2.1.size;have H8:=U.o.size;have Cf:∀k,w.heap.size<=k->k<w2.heap.size->¬iK k:=fun k h1 X hF=>by
   rcases n.o.2.2.1.sub _ hF with h|h
   ·exact gx.o _ h1 h
   omega
  have wD:¬iK y.heap.size:=fun hF=>by have :=n.o.1.m.lt _ hF;omega
  have fO:=aa ((p.o.2.2.1.other _ (aN MX.o) (Cf _ (apX _) (aN cB.o))).trans MX.o);have nt:=aa ((p.o.2.2.1.other _ (aN (bj p4.o U.o)) (Cf _ (by omega) lX)).trans (bj p4.o U.o));have Dz:=aa ((p.o.2.2.1.other _ (aN oy.o) wD).trans oy.o);have gP:=aa ((apY E.heap.size E).alloc (apX _) (.cells #[A (s.gt c+1+1),A c] 36));have uO:=aa (bI E (.cells #[A (s.gt c+1+1),A c] 36));have yA:=aa (bj fO.o gP.o);have yi:=aa (bj Dz.o gP.o);have uf:=aa (bj nt.o gP.o);have MY:(fg (fg s c (.inl j) t v) c (.inr (.inl ((d,f),b))) t1 v1).has c c=s.has c c+2:=by
   show upd _ c (upd _ c (_+1)) c c=_;rw[bF,bF,qb.o.1];omega
  have ZJ:∀u,I1 (nF (nF M s c (.inl j) t v) (fg s c (.inl j) t v) c (.inr (.inl ((d,f),b))) t1 v1 c) (.inr (.inr (.inl ((d,f),⟨#[]⟩,(s.gt c+2,(c:Int)),(0,(s.gt c+1,(c:Int))),u)))):=fun u=>⟨fun bp=>absurd rfl bp,.inr ⟨kk c (s.gt c) (s.has c) (.inl j) t v,by rw[nF,oa,nF,oa];simp,rfl,j,rfl⟩⟩
  have Ce:=aa (fun W (z:J E W)=>(MJ ((p.o.1.ae z).m.eK c l) (p.o.1.uN l) (d,f) (s.gt c+2,(c:Int)) ⟨#[]⟩ (0,(s.gt c+1,(c:Int)))).mono fun e w' ax=>show(∃iC,e=.returned iC)/\∃u t2 v2 sa Ci xz,u.Perm ((eZ (MS.q c).D.1 (MS.q c).D.2 (d,f) ⟨#[]⟩ (s.gt c+2,(c:Int))).aC.map (·.1))/\mX u/\Stepped r N sp jk n3 W w' x.eo (nF (nF (nF M s c (.inl j) t v) (fg s c (.inl j) t v) c (.inr (.inl ((d,f),b))) t1 v1) (fg (fg s c (.inl j) t v) c (.inr (.inl ((d,f),b))) t1 v1) c (.inr (.inr (.inl ((d,f),⟨#[]⟩,(s.gt c+2,(c:Int)),(0,(s.gt c+1,(c:Int))),u)))) t2 v2) (fg (fg (fg s c (.inl j) t v) c (.inr (.inl ((d,f),b))) t1 v1) c (.inr (.inr (.inl ((d,f),⟨#[]⟩,(s.gt c+2,(c:Int)),(0,(s.gt c+1,(c:Int))),u)))) t2 v2) sa Ci xz from by
   obtain⟨he,u,P,av,hw⟩:=ax;obtain⟨t2,v2,sa,Ci,xz,ga⟩:=(p.o.1.ae z).step (w':=w') l (by rw[MY];have :=S.o;omega) (ZJ u) hw;rw[p.o.2.1]at ga;exact⟨he,u,t2,v2,sa,Ci,xz,P,av,ga⟩)
  rw[p.o.2.1]at Ce;clear ZJ;have jJ:∀k,w.heap.size<=k->(k<w2.heap.size\/k=y.heap.size\/E.heap.size<=k)->¬jk k:=fun k h1 X hF=>by
   have aE:=p.o.1.m.lt k hF;rcases p.o.2.2.1.sub _ hF with h|h
   ·rcases X with X|X|X
    ·exact Cf k h1 X h
    ·rw[X]at h;exact wD h
    omega
   have cS:(y.alloc (.cells #[A (s.gt c+1),A c] 36)).heap.size=y.heap.size+1:=by simp
   omega
  have tP:=aa jJ;clear jJ;obtain⟨jx,q1⟩:=bl yA.o;obtain⟨j1,xQ⟩:=bl yi.o;obtain⟨HA,sN⟩:=bl uO.o;have qw:=aN yA.o;have gZ:=aN yi.o;have yo:=aN uO.o;rw[show s.gt c+1+1=s.gt c+2 by omega]at uO gP yA yi uf jx q1 j1 xQ HA sN qw gZ yo⊢;clear Cf wD jx q1 j1 xQ HA sN;have ZK:=aa (And.intro MY qb.o.2);clear MY;go_wp2_with fail
  go_region_held3 (fun W=>W.cell? (V w 0)=some (A d)/\W.cell? (V w 1)=some (A f)/\W.cell? (V y 0)=some (A (s.gt c+1))/\W.cell? (V y 1)=some (A c)/\W.cell? (V E 0)=some (A (s.gt c+2))/\W.cell? (V E 1)=some (A c)) (first |exact R3 HX7.o R4.o HE7.o|exact R3 BW.o R5.o R6.o|exact R3 yA.o yi.o uO.o)
   (first
    |(go_at_call 63;refine(MM _ _ _ _ _).mono ?_;rintro e w6 ⟨rfl,ZL⟩;have Gs:=Hq.o (mx ZL);have BW:=aa (bj yA.o Gs);have R5:=aa (bj yi.o Gs);have R6:=aa (bj uO.o Gs);have qt:=aa (bj uf.o Gs);have zp:=aa (gP.o.trans (Gs.mono gP.o.size));clear ZL Gs)
    |(go_at_call 62;refine(Ce.o _ (by first |exact zp.o|exact zp.o.drew)).mono ?_;rintro e w7 ⟨⟨iC,rfl⟩,u,t2,v2,sa,Ci,xz,P,av,ga⟩;have Y:=aa (And.intro P (And.intro av ga));clear P av ga;have HX7:=aa ((Y.o.2.2.2.2.1.other _ (aN BW.o) (tP.o _ (apX _) (.inl (aN cB.o)))).trans BW.o);have R4:=aa ((Y.o.2.2.2.2.1.other _ (aN R5.o) (tP.o _ (by omega) (.inr (.inl rfl)))).trans R5.o);have HE7:=aa ((Y.o.2.2.2.2.1.other _ (aN R6.o) (tP.o _ (by omega) (.inr (.inr (apX _))))).trans R6.o);have R7:=aa ((Y.o.2.2.2.2.1.other _ (aN qt.o) (tP.o _ (by omega) (.inl lX))).trans qt.o)))
  all_goals(
   obtain⟨fz,eP⟩:=bl R7.o;obtain⟨j1,xQ⟩:=bl R4.o;have kR:=cG R7.o;have F4:=aN R7.o;have apR:=aN R4.o;have fy:=aa (fun a b=>RR az.o bd.o ai8.o (by first |exact zp.o|exact zp.o.drew) Y.o.2.2 (g:=w.heap.size+1) (by omega) lX a b);go_wp2;refine bodyPost_ret (v:=.tuple #[.agg #[A (s.gt c+1),A c],A 0]) (by simp[results,results99,go_sem,fz,eP]) rfl ?_;exact(show _\/_ from .inr ⟨o,b,t,v,C.o.1,C.o.2.1,C.o.2.2,S.o,rfl,by rw[qb.o.1];have :=S.o;omega,t1,v1,_,u,t2,v2,(p.o.1.doc l).1,(p.o.1.doc l).2.1,Y.o.1,Y.o.2.1,fy.o _ _⟩))
 have ai:decide (s.has c c+((3:Nat):Int)<=60)=false:=decide_eq_false B;rw[ai];have S:=aa B;clear B ai;go_wp2;refine bodyPost_ret (v:=.tuple #[.agg #[A 0,A 0],A 8]) (by simp[results,results99,go_sem,Q,R]) rfl ?_;exact(show _\/_ from .inl ⟨8,.inr (.inr ⟨rfl,⟨o,b,C.o⟩,Int.not_le.2 S.o⟩),rfl,wG.o _ bd.o _ _⟩)
end
section
open Go.RowKit Tryz
variable {a h j k:Nat}{b:Nat->List ar}{c i:Nat->Prop}{d:World}{e:bn}{f:cI}
theorem ZM:∀{l m:List PId},mX l->mX m->l.Perm m->l=m
 |[],m,_,_,c=>c.nil_eq
 |a::l,[],_,_,c=>absurd c.length_eq (by simp)
 |a::l,b::m,e,f,c=>by
  obtain⟨g,i⟩:=aqU.1 e;obtain⟨j,k⟩:=aqU.1 f;have n:a=b:=by
   rcases aqb.1 (c.mem_iff.1 (aqf (a:=a) (l:=l))) with h|h
   ·exact h
   rcases aqb.1 (c.mem_iff.2 (aqf (a:=b) (l:=m))) with d|d
   ·exact d.symm
   have :=BE (g b d) (j a h);rw[uw]at this;cases this
  subst n;rw[ZM i k c.cons_inv]
theorem ZN(l:List cP):(l.map mW).map (·.1)=l.map (·.cQ):=by rw[aqO];rfl
theorem R8(a:List ar)(y:ar):cq (a++[y])=cc (cq a) (e4 y.op):=by
 unfold cq;rw[aqi,ara];rfl
theorem ai9(p:bH)(o:bg):(gq p o).list=o.list:=by
 unfold gq;split
 ·split <;>rfl
 split <;>rfl
theorem Gt(s:bn)(c:Nat)(a:lg)(t:TypeId)(v:Value):(fg s c a t v).ops c=s.ops c++[kk c (s.gt c) (s.has c) a t v]:=by unfold fg l5;simp only[bF]
theorem Gu(s:bn)(c:Nat)(a:lg)(t:TypeId)(v:Value):(fg s c a t v).gt c=s.gt c+1:=by unfold fg l5;simp only[bF]
theorem aja(s:bn)(c:Nat)(a:lg)(t:TypeId)(v:Value):(fg s c a t v).has c c=s.has c c+1:=by unfold fg l5;simp only[bF]
theorem ZO{h}{f:List ar}{g:Int}(u:∀o∈f,o.op.id.1<=g)(L:0<=g){a:PId}{o:bg}(l:bt (cq f) a=some o)(m:o.list=true){c:Int}{b:PId}{y:ar}(v:e4 y.op=⟨(g+1,c),2,false,a,⟨#[]⟩,(0,0),b,0,(0,0),[]⟩)(j:e1 (cq (f++[y])) h):(eZ h.1 h.2 a ⟨#[]⟩ (g+1,c)).aC=[]:=by
 have w:pk (cq f) (((f.map fun o=>e4 o.op).map bH.id).reverse++[]):=pk.all (f.map fun(o:ar)=>e4 o.op) c4 [] pk.root;rw[R8,v]at j;have n:bt (cc (cq f) ⟨(g+1,c),2,false,a,⟨#[]⟩,(0,0),b,0,(0,0),[]⟩) a=some (gq ⟨(g+1,c),2,false,a,⟨#[]⟩,(0,0),b,0,(0,0),[]⟩ o):=by
  rw[Bx (show(2:Int)≠1 by decide),if_pos rfl,l];rfl
 have x:hg (gq ⟨(g+1,c),2,false,a,⟨#[]⟩,(0,0),b,0,(0,0),[]⟩ o) ⟨#[]⟩ (g+1,c)=[]:=by
  unfold hg;cases q:(gq ⟨(g+1,c),2,false,a,⟨#[]⟩,(0,0),b,0,(0,0),[]⟩ o).ss.find? (fk ⟨#[]⟩ (g+1,c)) with
  |none=>rfl
  |some s=>
   have d:=arz q;have r:=(pb.1 (arO q)).2;unfold gq at d;rw[if_pos rfl,if_pos m]at d;rcases IU d with d|rfl
   ·exfalso;rcases w.slot a o l s d with i|i
    ·have B:g+1=0:=congrArg Prod.fst (r.symm.trans i);omega
    rw[r,aqB,List.mem_reverse]at i;obtain⟨p,C,e⟩:=ap5.1 i;obtain⟨z,D,rfl⟩:=ap5.1 C;rw[p3]at e;have k:=u z D;have B:z.op.id.1=g+1:=by rw[e]
    omega
   rfl
 by_cases t:(g+1,c)∈(gq ⟨(g+1,c),2,false,a,⟨#[]⟩,(0,0),b,0,(0,0),[]⟩ o).ss.map b9.id
 ·have k:=(j.FU n (by rw[ai9];exact m) t).2;rw[x,aqY]at k;exact List.Perm.eq_nil k
 have E:lE h.1 h.2 a ⟨#[]⟩ (g+1,c)=false:=by
  unfold lE;rw[if_pos rfl];cases F:bC (g+1,c) h.2 with
  |none=>rfl
  |some e=>
   show decide (e.list=a)=false;refine decide_eq_false fun I=>t ?_
   obtain⟨M,d,_,i⟩:=j.el _ e F;rw[I,n]at d;cases d;exact i
 unfold eZ;rw[E];rfl
def l8 (c:Nat):List bH->(Nat->List ar)->bn->(Nat->List ar)->bn->Prop
 |[],M,s,a,b=>a=M/\b=s
 |p::e,M,s,a,b=>∃d t v,e4 (kk c (s.gt c) (s.has c) d t v).op=p/\l8 c e (nF M s c d t v) (fg s c d t v) a b
theorem l8.one(M:Nat->List ar)(s:bn)(c:Nat)(a:lg)(t:TypeId)(v:Value):l8 c [e4 (kk c (s.gt c) (s.has c) a t v).op] M s (nF M s c a t v) (fg s c a t v):=⟨a,t,v,rfl,rfl,rfl⟩
theorem l8.app{c:Nat}:∀{d e:List bH} {M f g:Nat->List ar} {s i j:bn},l8 c d M s f i->l8 c e f i g j->l8 c (d++e) M s g j
 |[],_,_,_,_,_,_,_,⟨a,b⟩,h=>by subst a b;exact h
 |_::_,_,_,_,_,_,_,_,⟨k,t,v,a,b⟩,h=>⟨k,t,v,a,l8.app b h⟩
def Cj (r N a:Nat) (F I:Nat->Prop) (M:Nat->List ar) (s:bn) (x:cI) (c:Nat) (b:Except Int (List bH)) (E:Int->Ending) (Y:Ending) (w:World) (e:Ending) (d:World):Prop:=
 (∃m,b=.error m/\e=E m/\qM r N a F I w d x.eo M s)\/(∃f g h,b=.ok f/\e=Y/\l8 c f M s g h/\qM r N a F I w d x.eo g h)
theorem dL.Ch{w r F I N e M s x}(h:dL w r F I N e M s x){c:Nat}(f:c<N){y:PId}{o:bg}(g:bt (cq (s.ops c)) y=some o){a:ByteArray}{z:PId}{d:List (PId×dU)}{b:List PId}(i:d.Perm ((hg o a z).map mW))(j:b.Perm (d.map (·.1)))(k:mX b):b=(hg o a z).map (·.cQ):=by
 refine ZM k ((pt.of (h.ok.jB c f)).Ch g a z) ?_;rw[<-ZN];exact j.trans (i.map _)
theorem dL.ajb(g:dL d h c i j k b e f)(s:a<j)(w x n:Int)(p:ByteArray)(C:p.size<=maxLen):O 23 #[Z h,A a,.agg #[A w,A x],.string p,A n] d fun l B=>Cj h j k c i b e f a (ub (cq (e.ops a)) (e.gt a) (b a).length a (w,x) p n) (fun m=>.returned (A m)) (.returned (A 0)) d l B:=by
 have M:=g.ok.own a s;refine(aiv g s w x n p C).mono ?_;rintro l B (⟨m,y,rfl,z⟩|⟨o,N,q,u,r,D,E,rfl,F,t,v,z⟩)
 ·refine .inl ⟨m,?_,rfl,z⟩;unfold ub;rcases y with y|⟨rfl,⟨o,q,u,r⟩,F⟩
  ·rw[y]
  rw[Ae q u,r];show(if(b a).length<60 then _ else _)=_;rw[if_neg (by omega)]
 have I:p≠⟨#[]⟩:=fun l=>by rw[l]at r;exact absurd r (by decide)
 have L:=g.Ch s q ((g.ko s).zJ q u I (0,0)).2 D E;refine .inr ⟨_,_,_,?_,rfl,l8.one b e a _ t v,z⟩;unfold ub;rw[Ae q u,r];show(if(b a).length<60 then _ else _)=_;rw[if_pos (by omega),<-L];rfl
theorem dL.ajc(l:dL d h c i j k b e f)(u:a<j)(y z:Int)(p:ByteArray)(F:p.size<=maxLen):O 78 #[Z h,A a,.agg #[A y,A z],.string p] d fun g E=>Cj h j k c i b e f a (sU (cq (e.ops a)) (e.gt a) (b a).length a (y,z) p) (fun m=>.returned (A m)) (.returned (A 0)) d g E:=by
 have Q:=l.ok.own a u;refine(aiA l u y z p F).mono ?_;rintro g E (⟨m,B,rfl,C⟩|⟨o,R,q,r,n,I,L,rfl,M,N,t,v,C⟩)
 ·refine .inl ⟨m,?_,rfl,C⟩;unfold sU;rcases B with B|⟨rfl,⟨o,q,r,n⟩,D⟩|⟨rfl,⟨⟨o,q,r,n⟩,D⟩,N⟩
  ·rw[B]
  ·have w:p≠⟨#[]⟩:=fun g=>by rw[g]at n;exact absurd n (by decide)
   have s:=((l.ko u).zJ q r w (0,0)).2;rw[D]at s;rw[Ae q r,n];show(if(hg o p (0,0)).length=0 then _ else _)=_;rw[if_pos (by have :=s.length_eq;simpa using this.symm)]
  have w:p≠⟨#[]⟩:=fun g=>by rw[g]at n;exact absurd n (by decide)
  have s:=((l.ko u).zJ q r w (0,0)).2;rw[Ae q r,n];show(if(hg o p (0,0)).length=0 then _ else if(b a).length<60 then _ else _)=_;rw[if_neg (fun g=>D (by have x:=s.length_eq;rw[ap2,g]at x;exact arb x)),if_neg (by omega)]
 have w:p≠⟨#[]⟩:=fun g=>by rw[g]at n;exact absurd n (by decide)
 have s:=((l.ko u).zJ q r w (0,0)).2;have P:=l.Ch u q s I L;refine .inr ⟨_,_,_,?_,rfl,l8.one b e a _ t v,C⟩;unfold sU;rw[Ae q r,n];show(if(hg o p (0,0)).length=0 then _ else if(b a).length<60 then _ else _)=_;rw[if_neg (fun g=>M (by have x:=s.length_eq;rw[ap2,g]at x;exact arb x)),if_pos (by omega),<-P];rfl
theorem dL.ajd(l:dL d h c i j k b e f)(z:a<j)(u w g n:Int):O 33 #[Z h,A a,.agg #[A u,A w],A g,A n] d fun p E=>Cj h j k c i b e f a (kD (cq (e.ops a)) (e.gt a) (b a).length a (u,w) g 3 n) (fun m=>.returned (A m)) (.returned (A 0)) d p E:=by
 have W:=l.ok.own a z;refine(aiw l z u w g n).mono ?_;rintro p E (⟨m,B,rfl,C⟩|⟨o,y,X,r,s,I,F,L,M,rfl,N,t,v,C⟩)
 ·refine .inl ⟨m,?_,rfl,C⟩;unfold kD;rcases B with B|⟨rfl,o,r,s,D⟩|⟨⟨rfl,N⟩,o,r,s,D⟩
  ·rw[B]
  ·rw[rv r s];show(if g<0\/((dB o).length:Int)<=g then _ else _)=_;rw[if_pos D]
  rw[rv r s];show(if g<0\/((dB o).length:Int)<=g then _ else if(b a).length<60 then _ else _)=_;rw[if_neg D,if_neg (by omega)]
 have P:=l.Ch z r ((l.ko z).FU r s (WY (arX F))).2 L M;refine .inr ⟨_,_,_,?_,rfl,l8.one b e a _ t v,C⟩;unfold kD;rw[rv r s];show(if g<0\/((dB o).length:Int)<=g then _ else if(b a).length<60 then _ else _)=_;have Q:(dB o).getD g.toNat (0,0)=y:=by simp[List.getD,F]
 have R:Dk (cq (e.ops a)) (u,w) y=(hg o ⟨#[]⟩ y).map (·.cQ):=by
  unfold Dk;rcases Im (cq (e.ops a)) (u,w) true with⟨x,_⟩|⟨Y,q,x,S,U⟩
  ·rw[r]at x;cases x
  rw[r]at x;cases x;rw[U,if_pos s];simp only[S]
 rw[if_neg I,if_pos (by omega),Q,R,<-P];rfl
theorem dL.aje(l:dL d h c i j k b e f)(x:a<j)(s u g:Int):O 34 #[Z h,A a,.agg #[A s,A u],A g] d fun n D=>Cj h j k c i b e f a (kD (cq (e.ops a)) (e.gt a) (b a).length a (s,u) g 4 0) (fun m=>.returned (A m)) (.returned (A 0)) d n D:=by
 have U:=l.ok.own a x;refine(aix l x s u g).mono ?_;rintro n D (⟨m,z,rfl,B⟩|⟨o,y,W,q,r,F,E,I,L,rfl,M,t,v,B⟩)
 ·refine .inl ⟨m,?_,rfl,B⟩;unfold kD;rcases z with z|⟨rfl,o,q,r,C⟩|⟨rfl,⟨o,q,r,C⟩,M⟩
  ·rw[z]
  ·rw[rv q r];show(if g<0\/((dB o).length:Int)<=g then _ else _)=_;rw[if_pos C]
  rw[rv q r];show(if g<0\/((dB o).length:Int)<=g then _ else if(b a).length<60 then _ else _)=_;rw[if_neg C,if_neg (by omega)]
 have N:=l.Ch x q ((l.ko x).FU q r (WY (arX E))).2 I L;refine .inr ⟨_,_,_,?_,rfl,l8.one b e a _ t v,B⟩;unfold kD;rw[rv q r];show(if g<0\/((dB o).length:Int)<=g then _ else if(b a).length<60 then _ else _)=_;have P:(dB o).getD g.toNat (0,0)=y:=by simp[List.getD,E]
 have Q:Dk (cq (e.ops a)) (s,u) y=(hg o ⟨#[]⟩ y).map (·.cQ):=by
  unfold Dk;rcases Im (cq (e.ops a)) (s,u) true with⟨w,_⟩|⟨X,p,w,R,S⟩
  ·rw[q]at w;cases w
  rw[q]at w;cases w;rw[S,if_pos r];simp only[R]
 rw[if_neg F,if_pos (by omega),P,Q,<-N];rfl
theorem dL.ajf(l:dL d h c i j k b e f)(x:a<j)(q r:Int)(p:ByteArray)(D:p.size<=maxLen)(n:Bool):O 38 #[Z h,A a,.agg #[A q,A r],.string p,.bool n] d fun g C=>Cj h j k c i b e f a (uc (cq (e.ops a)) (e.gt a) (b a).length a (q,r) p n) (fun m=>.returned (.tuple #[.agg #[A 0,A 0],A m])) (.returned (.tuple #[.agg #[A (e.gt a+1),A a],A 0])) d g C:=by
 have U:=l.ok.own a x;refine(aiD l x q r p D n).mono ?_;rintro g C (⟨m,y,rfl,z⟩|⟨o,s,w,u,rfl,E,t,v,W,B,F,I,L,_,M,N,z⟩)
 ·refine .inl ⟨m,?_,rfl,z⟩;unfold uc;rcases y with y|⟨rfl,⟨o,s,w,u⟩,E⟩
  ·rw[y]
  rw[Ae s w,u];show(if(b a).length<59 then _ else _)=_;rw[if_neg (by omega)]
 have P:p≠⟨#[]⟩:=fun g=>by rw[g]at u;exact absurd u (by decide)
 have Q:bt (cq ((fg e a (.inl n) t v).ops a)) (q,r)=some o:=by
  rw[Gt,R8,yp rfl,s]
 have R:=l.Ch x s (L.zJ Q w P (0,0)).2 M N;have S:=(l8.one b e a (.inl n) t v).app (l8.one (nF b e a (.inl n) t v) (fg e a (.inl n) t v) a (.inr (.inr (.inl ((q,r),p,(0,0),(0,(e.gt a+1,(a:Int))),B)))) F I);refine .inr ⟨_,_,_,?_,rfl,S,z⟩;unfold uc;rw[Ae s w,u];show(if(b a).length<59 then _ else _)=_;rw[if_pos (by omega),<-R];show Except.ok [tZ (e.gt a+1) a n,x8 3 (e.gt a+2) a (q,r) p 0 (e.gt a+1,(a:Int)) B]=Except.ok [tZ (e.gt a+1) a n,x8 3 ((fg e a (.inl n) t v).gt a+1) a (q,r) p 0 (e.gt a+1,(a:Int)) B];rw[Gu,Fu]
theorem dL.ajg{I M}(k:dL d a i I h j M e f){c:Nat}(u:c<h)(p q g n:Int):O 32 #[Z a,A c,.agg #[A p,A q],A g,A n] d fun l z=>Cj a h j i I M e f c (sV (cq (e.ops c)) (e.gt c) (M c).length c (p,q) g n) (fun m=>.returned (.tuple #[.agg #[A 0,A 0],A m])) (.returned (.tuple #[.agg #[A (e.gt c+1),A c],A 0])) d l z:=by
 have Q:=k.ok.own c u;refine(aiG k u p q g n).mono ?_;rintro l z (⟨m,w,rfl,x⟩|⟨o,b,r,s,D,rfl,E,t,v,R,S,F,L,B,_,C,U,x⟩)
 ·refine .inl ⟨m,?_,rfl,x⟩;unfold sV;rcases w with w|⟨rfl,o,r,s,y⟩|⟨rfl,⟨o,b,r,s,y⟩,E⟩
  ·rw[w]
  ·rw[rv r s];show(match jN (dB o) g with |none=>_|some b=>_)=_;rw[y]
  rw[rv r s];show(match jN (dB o) g with |none=>_|some b=>if(M c).length<59 then _ else _)=_;rw[y];show(if(M c).length<59 then _ else _)=_;rw[if_neg (by omega)]
 rw[Gt]at B;have N:=ZO (k.ok.copy c u).yH (k.ok.vW c u).1 r s (c:=(c:Int)) (b:=b) rfl B;rw[N,aqY]at C;obtain rfl:=List.Perm.eq_nil C;have P:=(l8.one M e c (.inr (.inl ((p,q),b))) t v).app (l8.one (nF M e c (.inr (.inl ((p,q),b))) t v) (fg e c (.inr (.inl ((p,q),b))) t v) c (.inr (.inr (.inl ((p,q),⟨#[]⟩,(e.gt c+1,(c:Int)),(n,(0,0)),[])))) F L);refine .inr ⟨_,_,_,?_,rfl,P,x⟩;unfold sV;rw[rv r s];show(match jN (dB o) g with |none=>_|some b=>if(M c).length<59 then _ else _)=_;rw[D];show(if(M c).length<59 then _ else _)=_;rw[if_pos (by omega)];show Except.ok [ua (e.gt c+1) c (p,q) b,sT 3 (e.gt c+2) c (p,q) (e.gt c+1,(c:Int)) n (0,0) []]=Except.ok [ua (e.gt c+1) c (p,q) b,sT 3 ((fg e c (.inr (.inl ((p,q),b))) t v).gt c+1) c (p,q) (e.gt c+1,(c:Int)) n (0,0) []];rw[Gu,Fu]
theorem dL.ajh{I M}(k:dL d a i I h j M e f){c:Nat}(z:c<h)(p q g:Int)(n:Bool):O 99 #[Z a,A c,.agg #[A p,A q],A g,.bool n] d fun l E=>Cj a h j i I M e f c (sW (cq (e.ops c)) (e.gt c) (M c).length c (p,q) g n) (fun m=>.returned (.tuple #[.agg #[A 0,A 0],A m])) (.returned (.tuple #[.agg #[A (e.gt c+1),A c],A 0])) d l E:=by
 have Y:=k.ok.own c z;refine(ai7 k z p q g n).mono ?_;rintro l E (⟨m,B,rfl,C⟩|⟨o,b,r,s,u,w,P,sb,rfl,Q,t,v,iX,ss,R,S,F,_,L,av,C⟩)
 ·refine .inl ⟨m,?_,rfl,C⟩;unfold sW;rcases B with B|⟨rfl,o,u,w,D⟩|⟨rfl,⟨o,b,u,w,D⟩,Q⟩
  ·rw[B]
  ·rw[rv u w];show(match jN (dB o) g with |none=>_|some b=>_)=_;rw[D]
  rw[rv u w];show(match jN (dB o) g with |none=>_|some b=>if(M c).length<58 then _ else _)=_;rw[D];show(if(M c).length<58 then _ else _)=_;rw[if_neg (by omega)]
 have U:bt (cq ((fg e c (.inl n) r s).ops c)) (p,q)=some o:=by
  rw[Gt,R8,yp rfl,u]
 have hg0:=(k.ok.vW c z).1;have W:∀y∈(fg e c (.inl n) r s).ops c,y.op.id.1<=e.gt c+1:=fun y x=>by
  rw[Gt]at x;rcases ap7.1 x with x|x
  ·have :=(k.ok.copy c z).yH y x;omega
  obtain rfl:=ap9.1 x;exact ary _
 rw[Gt (fg e c (.inl n) r s)]at F;have N:=ZO W (by omega) U w (c:=(c:Int)) (b:=b) (y:=kk c ((fg e c (.inl n) r s).gt c) ((fg e c (.inl n) r s).has c) (.inr (.inl ((p,q),b))) t v) (by rw[Gu];rfl) F;rw[show e.gt c+1+1=e.gt c+2 by omega]at N;rw[N,aqY]at L;obtain rfl:=List.Perm.eq_nil L;have X:=(l8.one M e c (.inl n) r s).app ((l8.one (nF M e c (.inl n) r s) (fg e c (.inl n) r s) c (.inr (.inl ((p,q),b))) t v).app (l8.one (nF (nF M e c (.inl n) r s) (fg e c (.inl n) r s) c (.inr (.inl ((p,q),b))) t v) (fg (fg e c (.inl n) r s) c (.inr (.inl ((p,q),b))) t v) c (.inr (.inr (.inl ((p,q),⟨#[]⟩,(e.gt c+2,(c:Int)),(0,(e.gt c+1,(c:Int))),[])))) R S));refine .inr ⟨_,_,_,?_,rfl,X,C⟩;unfold sW;rw[rv u w];show(match jN (dB o) g with |none=>_|some b=>if(M c).length<58 then _ else _)=_;rw[P];show(if(M c).length<58 then _ else _)=_;rw[if_pos (by omega)];show Except.ok [tZ (e.gt c+1) c n,ua (e.gt c+2) c (p,q) b,sT 3 (e.gt c+3) c (p,q) (e.gt c+2,(c:Int)) 0 (e.gt c+1,(c:Int)) []]=Except.ok [tZ (e.gt c+1) c n,ua ((fg e c (.inl n) r s).gt c+1) c (p,q) b,sT 3 ((fg (fg e c (.inl n) r s) c (.inr (.inl ((p,q),b))) t v).gt c+1) c (p,q) (e.gt c+2,(c:Int)) 0 (e.gt c+1,(c:Int)) []];rw[Gu (fg e c (.inl n) r s),Gu,Fu,show e.gt c+2+1=e.gt c+3 by omega]
end
end Go.Proofs.YtnkpogjiiohapaaGreatDoor
