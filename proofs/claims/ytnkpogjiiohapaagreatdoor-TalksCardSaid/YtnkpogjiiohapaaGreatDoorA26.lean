/- Our own text. -/
import Derived.Test.YtnkpogjiiohapaaGreatDoorA25
import Derived.Test.YtnkpogjiiohapaaGreatDoorA24
set_option linter.unusedSimpArgs false
set_option linter.unusedVariables false
set_option maxRecDepth 1000000
set_option maxHeartbeats 2000000
namespace Go.Proofs.YtnkpogjiiohapaaGreatDoor
section
open Go.RowKit Tryz
variable {a:cN}
theorem YQ(h:fG a)(b:PId)(c:ByteArray)(d:PId):((eY a.1 a.2 b c d).aB.map (·.1)).Nodup:=by
 unfold eY;split
 ·split
  ·split
   ·rename_i e f
    exact h.mL _ (fQ f)
   ·exact apT
  ·split
   ·rename_i j g
    split
    ·rename_i k i
     exact h.fE _ (fQ g) _ (fQ i)
    ·exact apT
   ·exact apT
 ·exact apT
theorem aid{w d aA be R}{r:Nat}(h:wG w d aA be a R)(B:r<=3)(ih:BE w d R r)(x:PId){o:ba}(b:bl R x=some o)(c:o.list=true):
  O 140 #[Z d,.agg #[A x.1,A x.2],A (4-(r:Int))] w fun e C=>e=.returned (.string (vs (eo R r) o.list (ie o)))/\J w C:=by
 have D:=aa ((aoQ w.heap.size w).alloc (aoP _) (.cells #[A x.1,A x.2] 36));have cU:=aa (bL w (.cells #[A x.1,A x.2] 36));obtain⟨aW,S,l⟩:=h.kH.bg x o b;have U:o.ss.length<=10000:=h.cnt x o b;have E:=aa (show O 57 #[Z d,.agg #[A x.1,A x.2]] (w.alloc (.cells #[A x.1,A x.2] 36)) _ from U0 (h.q.af D.o) x.1 x.2 S (l.list.trans c) (l.chain c) (by rw[aoU];omega));rw[Yr l c,show dw o=(o.ss.filter l1).map bU.id from rfl]at E;have Iv:=aa (show ∀s∈o.ss,∀W,J w W->O 167 #[Z d,.agg #[A x.1,A x.2,.string ⟨#[]⟩,A s.id.1,A s.id.2],A (4-(r:Int))] W fun e C=>e=.returned (.string (mX (eo R r) o.list s))/\J W C from fun s f W X=>by
  have Y:=(l.elems c s f).1;have Ra:fD o ⟨#[]⟩ s.id=s.ad:=l.Ht f (oS.2 ⟨Y,rfl⟩);have ag:=(h.kH.Fa b c (aoX.2 ⟨s,f,rfl⟩)).2;rw[Ra]at ag;have :=YP (h.af X) B (ih.af X) x.1 x.2 s.id.1 s.id.2 ⟨#[]⟩ s.ad (h.cO x o b s f).1 ag (YQ h.ji _ _ _) (h.nums x o b s f) (h.sz x o b s f) ((h.qO r B x o b).2 s f);unfold mX;rw[c];exact this)
 have js:=(h.qO r B x o b).1;have F:yn (eo R r) o.list (ie o)=lF comma ((o.ss.filter l1).map (mX (eo R r) o.list)):=by
  have fY:ie o=o.ss:=by unfold ie;rw[c];rfl
  rw[fY];rfl
 have Ix:=aa (show(lF comma ((o.ss.filter l1).map (mX (eo R r) o.list))).size<=140737488355328 by rw[<-F];omega);have Io:=aa F;have tG:(o.ss.filter l1).length<=10000:=aoS (apK _ _) U;have sr:=aa (show ∀s∈o.ss.filter l1,s∈o.ss from fun s f=>(apA.1 f).1);have nH:=aa c;clear h ih S l U js F b c;generalize cl:o.ss.filter l1=L at *;clear cl;go_enter func140,ntmps140;go_wp2_with fail
 refine E.o.mono ?_;rintro e m ⟨u,rfl,I,M⟩;have bS:=aa (bj cU.o M);have ax:=aa (D.o.trans (M.mono D.o.size));clear M;have hz1:=ax.o.size;have gi:=aa (show er m u (L.map bU.id) from I.ids);obtain⟨kB,kC,rfl,uz,sL,hX⟩:=bp I;clear I E;unfold maxLen at sL;rw[aoU]at uz;go_wp2_with fail
 go_loopw [7,14] (fun u i wr=>∃k:Nat,k<=L.length/\i=A k/\py m.heap.size wr u ((L.take k).map (mX (eo R r) o.list))/\J m wr) (fun _ i _=>L.length-(intOf i).toNat)
 case atStart=>exact⟨0,aoR _,rfl,ao9 _ _ _ _,aoQ _ _⟩
 case round=>
  obtain⟨k,Y,rfl,n,j⟩:=hrel;have sj:=j.size;have v:=aa (ax.o.trans (j.mono hz1));by_cases y:k<L.length
  ·obtain⟨g,rfl⟩:=hX k (by simpa using y)
   obtain⟨z,N⟩:=er.cells gi.o (by simp) k (by simpa using y);simp only[apy]at z N;replace z:=af j z;replace N:=af j N;have cz:=aa (bj bS.o j);obtain⟨cr,bx⟩:=bh cz.o;have fN:=aM cz.o;have cP:=ao4 wr _ z;have c3:(k:Int)<(L.length:Int):=by omega
   have cL:=aa n;clear n;have gD:=aa j;clear j;have bM:=aa (show J wr (wr.alloc (.cells #[A L[k].id.1,A L[k].id.2] 36)) from(aoQ _ wr).alloc (aoP _) _);go_wp2_with fail
   refine(L3 _ _ _ _ _).mono ?_;rintro e w2 ⟨rfl,p⟩;have t:=aa (bM.o.trans (p.mono bM.o.size));clear p;have Iw:=aa (Iv.o L[k] (sr.o _ (aoY y)) w2 (v.o.trans (t.o.mono v.o.size)));go_wp2_with fail
   refine Iw.o.mono ?_;rintro e P ⟨rfl,a8⟩;have Q:=aa (t.o.trans (a8.mono t.o.size));clear a8;have mM:=Q.o.size;have lM:=aa (show py m.heap.size P _ ((L.take k).map (mX (eo R r) o.list)) from c5 cL.o Q.o);have nE:((L.take k).map (mX (eo R r) o.list)).length=k:=by rw[aoU,ao7];omega
   go_wp2_with (at_builtin;go_must (refine KO rfl (.tmp 18) (.tmp 25) rfl m.heap.size _ ((L.take k).map (mX (eo R r) o.list)) rfl ?h1 P.heap.size 1 (mX (eo R r) o.list L[k]) rfl ?h2 ?aL ?bW ?_;(case h1=>exact aqd lM.o _);(case h2=>exact LV (bL P _));(case aL=>omega);(case bW=>simp;omega);intro v' w4 uA dB;have kF:=aa dB;clear dB;have jw:=aa uA;clear uA))
   go_roundw
   case rel=>
    have fC:J m w4:=Q8 (gD.o.trans (Q.o.mono gD.o.size)) (o:=.cells #[.string (mX (eo R r) o.list L[k])] 9) kF.o (by omega) fun g ah=>(aoT lM.o g ah).1
    exact⟨k+1,by omega,by go_num,by rw[El _ y];exact jw.o,fC⟩
   case measure=>simp[intOf];omega
  ·have hL:k=L.length:=by omega
   subst hL;rw[apc (aoP _)]at n;have vk:=aa (PI n comma (by rw[aoU];omega) Ix.o);clear n;go_wp2_with fail
   refine vk.o.mono ?_;rintro e w2 ⟨rfl,p⟩;have t:=aa (v.o.trans (p.mono v.o.size));clear p;have hjz:=Ix.o;clear vk;go_wp2;go_ret
   refine⟨Au ?_,t.o⟩;unfold vs;rw[Io.o,nH.o,if_pos rfl]
theorem aie{o}{R:List ba}{x:PId}{f:eI}(w:fG a)(y:bq x a.1=some f)(i:xQ a.2 x o f)(m:o.list=false):q2 (oO f.ks)=((pk o.ss).filter l1).map bU.key:=by
 have t:(f.ks.map (·.1)).Nodup:=w.ks _ (fQ y);have z:=i.CZ m;have B:=i.keys m;have C:∀s∈o.ss,fD o s.key (0,0)=s.ad:=fun s g=>i.Ht g (oS.2 ⟨rfl,(B s g).2⟩)
 have D:∀j c,(j,c)∈f.ks->c.aB.length=(fD o j (0,0)).length:=fun j c n=>by
  have :=i.E9 m j;rw[E7 t n]at this;have :=this.length_eq;rw[aoU]at this;exact this
 have p:=aqy o.ss EI;have E:((pk o.ss).map bU.key).Nodup:=((p.map bU.key).nodup_iff).2 z;apply Wy
 ·rw[List.perm_ext_iff_of_nodup]
  ·intro j
   unfold oO;constructor
   ·intro q
    obtain⟨⟨k,c⟩,n,rfl⟩:=aoX.1 q;obtain⟨F,I⟩:=apA.1 n;have l:=D k c F;have e:0<c.aB.length:=by simpa using I
    rw[l]at e;obtain⟨h,L⟩:=List.exists_mem_of_length_pos e;obtain⟨s,g,M,N⟩:=V0 L;refine aoX.2 ⟨s,apA.2 ⟨p.mem_iff.2 g,?_⟩,(oS.1 M).1⟩;unfold l1;rw[N];simpa using e
   ·intro q
    obtain⟨s,g,rfl⟩:=aoX.1 q;obtain⟨P,u⟩:=apA.1 g;have Q:s∈o.ss:=p.mem_iff.1 P;have e:0<s.ad.length:=by unfold l1 at u;simpa using u
    have :=i.E9 m s.key;rw[C s Q]at this;cases r:bq s.key f.ks with
    |none=>
     rw[r]at this;have :=this.length_eq;rw[aoU]at this;simp at this;omega
    |some c=>
     rw[r]at this;have v:=this.length_eq;rw[aoU]at v;refine aoX.2 ⟨(s.key,c),apA.2 ⟨fQ r,?_⟩,rfl⟩;have :c.aB.length=s.ad.length:=v;simp only[this];simpa using e
  ·exact(List.filter_sublist.map _).nodup t
  ·exact(List.filter_sublist.map _).nodup E
 ·rw[apB]
  refine List.Pairwise.filter _ ?_;have l:(pk o.ss).Pairwise fun d b=>EI d b=true:=ars (fun d b c l e=>Ub ⟨d.key,d.id,.slice none 0 0,d.ad⟩ ⟨b.key,b.id,.slice none 0 0,b.ad⟩ ⟨c.key,c.id,.slice none 0 0,c.ad⟩ l e) (fun d b=>Uc ⟨d.key,d.id,.slice none 0 0,d.ad⟩ ⟨b.key,b.id,.slice none 0 0,b.ad⟩) o.ss
  refine l.imp fun{d b} h=>Wz _ _ ?_
  unfold EI hA at h;simpa using h
theorem aij{w d aA be R}{r:Nat}(h:wG w d aA be a R)(z:r<=3)(ih:BE w d R r)(x:PId){o:ba}(b:bl R x=some o)(f:o.list=false):
  O 141 #[Z d,.agg #[A x.1,A x.2],A (4-(r:Int))] w fun e F=>e=.returned (.string (vs (eo R r) o.list (ie o)))/\J w F:=by
 have I:=aa ((aoQ w.heap.size w).alloc (aoP _) (.cells #[A x.1,A x.2] 36));have cU:=aa (bL w (.cells #[A x.1,A x.2] 36));obtain⟨aW,B,C⟩:=h.kH.bg x o b;have Y:o.ss.length<=10000:=h.cnt x o b;have M:=aa (show O 169 #[Z d,.agg #[A x.1,A x.2]] (w.alloc (.cells #[A x.1,A x.2] 36)) _ from ad5 (h.q.af I.o) x.1 x.2 B (h.YO _ (fQ B)) q2 (fun W v l aH k2=>af5 _ W v l aH k2) af4);rw[aie (R:=R) h.ji B C f]at M;have Iv:=aa (show ∀s∈o.ss,∀W,J w W->O 167 #[Z d,.agg #[A x.1,A x.2,.string s.key,A 0,A 0],A (4-(r:Int))] W fun e F=>e=.returned (.string (qy (eo R r) s.ad))/\J W F from fun s c W ab=>by
  have N:=C.keys f s c;have Ra:fD o s.key (0,0)=s.ad:=C.Ht c (oS.2 ⟨rfl,N.2⟩);have ag:=(h.kH.zl b f N.1 (0,0)).2;rw[Ra]at ag;exact YP (h.af ab) z (ih.af ab) x.1 x.2 0 0 s.key s.ad (h.cO x o b s c).1 ag (YQ h.ji _ _ _) (h.nums x o b s c) (h.sz x o b s c) ((h.qO r z x o b).2 s c))
 have Q9:=aa (show ∀s∈o.ss,s.key.size<=4/\(qy (eo R r) s.ad).size<=1000000000000 from fun s c=>⟨(h.cO x o b s c).2,(h.qO r z x o b).2 s c⟩);have js:=(h.qO r z x o b).1;have YR:ie o=pk o.ss:=by unfold ie;rw[f];rfl
 have P:yn (eo R r) o.list (ie o)=lF comma (((pk o.ss).filter l1).map (mX (eo R r) o.list)):=by rw[YR];rfl
 have Ix:=aa (show(lF comma (((pk o.ss).filter l1).map (mX (eo R r) o.list))).size<=140737488355328 by rw[<-P];omega);have Io:=aa P;have tG:((pk o.ss).filter l1).length<=10000:=aoS (apK _ _) (by unfold pk;rw[(aqy o.ss EI).length_eq];exact Y);have sr:=aa (show ∀s∈(pk o.ss).filter l1,s∈o.ss from fun s c=>(aqy o.ss EI).mem_iff.1 (apA.1 c).1);have nH:=aa f;have zm:∀s,mX (eo R r) o.list s=(s.key++colon)++qy (eo R r) s.ad:=fun s=>by unfold mX;rw[f,if_neg (by decide)]
 have HSF:=aa zm;clear h ih B C Y js P b f YR zm;generalize cl:(pk o.ss).filter l1=L at *;clear cl;go_enter func141,ntmps141;go_wp2_with fail
 refine M.o.mono ?_;rintro e m ⟨u,rfl,Q,S⟩;have bS:=aa (bj cU.o S);have ax:=aa (I.o.trans (S.mono I.o.size));clear S;have hz1:=ax.o.size;obtain⟨kB,kC,rfl,uz,sL,hX⟩:=bp Q;have gi:=aa Q;clear Q M;unfold maxLen at sL;rw[aoU]at uz;go_wp2_with fail
 go_loopw [7,14] (fun u i wr=>∃k:Nat,k<=L.length/\i=A k/\py m.heap.size wr u ((L.take k).map (mX (eo R r) o.list))/\J m wr) (fun _ i _=>L.length-(intOf i).toNat)
 case atStart=>exact⟨0,aoR _,rfl,ao9 _ _ _ _,aoQ _ _⟩
 case round=>
  obtain⟨k,N,rfl,n,j⟩:=hrel;have sj:=j.size;have D:=aa (ax.o.trans (j.mono hz1));by_cases p:k<L.length
  ·obtain⟨g,rfl⟩:=hX k (by simpa using p)
   have E:=PH gi.o k L[k].key (by simp[p]);rw[apF]at E;replace E:=af j E;have cz:=aa (bj bS.o j);obtain⟨cr,bx⟩:=bh cz.o;have fN:=aM cz.o;have cP:=ao4 wr _ E;have c3:(k:Int)<(L.length:Int):=by omega
   have cL:=aa n;clear n;have gD:=aa j;clear j;obtain⟨dO,qK⟩:=Q9.o L[k] (sr.o _ (aoY p));go_wp2_with fail
   refine(YG _ _ _ _).mono ?_;rintro e w2 ⟨rfl,t⟩;have y:=aa t;clear t;have Iw:=aa (Iv.o L[k] (sr.o _ (aoY p)) w2 (D.o.trans (y.o.mono D.o.size)));go_wp2_with fail
   refine Iw.o.mono ?_;rintro e U ⟨rfl,a8⟩;have X:=aa (y.o.trans (a8.mono y.o.size));clear a8;have mM:=X.o.size;have lM:=aa (show py m.heap.size U _ ((L.take k).map (mX (eo R r) o.list)) from c5 cL.o X.o);have nE:((L.take k).map (mX (eo R r) o.list)).length=k:=by rw[aoU,ao7];omega
   go_wp2_with (at_builtin;go_must (refine KO rfl (.tmp 18) (.tmp 28) rfl m.heap.size _ ((L.take k).map (mX (eo R r) o.list)) rfl ?h1 U.heap.size 1 ((L[k].key++colon)++qy (eo R r) L[k].ad) rfl ?h2 ?aL ?bW ?_;(case h1=>exact aqd lM.o _);(case h2=>exact LV (bL U _));(case aL=>omega);(case bW=>simp;omega);intro v' w4 uA dB;have kF:=aa dB;clear dB;have jw:=aa uA;clear uA))
   go_roundw
   case rel=>
    have fC:J m w4:=Q8 (gD.o.trans (X.o.mono gD.o.size)) kF.o (by omega) fun g ah=>(aoT lM.o g ah).1
    exact⟨k+1,by omega,by go_num,by rw[El _ p,HSF.o L[k]];exact jw.o,fC⟩
   case measure=>simp[intOf];omega
  ·have hL:k=L.length:=by omega
   subst hL;rw[apc (aoP _)]at n;have vk:=aa (PI n comma (by rw[aoU];omega) Ix.o);clear n;go_wp2_with fail
   refine vk.o.mono ?_;rintro e w2 ⟨rfl,t⟩;have y:=aa (D.o.trans (t.mono D.o.size));clear t;have hjz:=Ix.o;clear vk;go_wp2;go_ret
   refine⟨Au ?_,y.o⟩;unfold vs;rw[Io.o,nH.o,if_neg (by decide)]
end
section
open Go.RowKit Tryz
attribute [local go_sem ↓] Go.wp_at_zero Go.wp_at_succ
variable {a b d:Nat}
theorem aik{D:cN}{R:List ba}:∀(r:Nat),r<=4->∀w,wG w a b d D R->BE w a R r:=by
 intro r
 induction r with
 |zero=>
  intro _ w h W s x o f;have g:=aa ((aoQ W.heap.size W).alloc (aoP _) (.cells #[A x.1,A x.2] 36));have t:(5:Int)-((0:Nat):Int)=5:=by omega
  rw[t];clear h f;go_enter func88,ntmps88;go_wp2;go_ret
  exact⟨rfl,g.o⟩
 |succ r ih=>
  intro P w h W s x o f;have g:=aa ((aoQ W.heap.size W).alloc (aoP _) (.cells #[A x.1,A x.2] 36));have B:=aa (bL W (.cells #[A x.1,A x.2] 36));have t:(5:Int)-((r+1:Nat):Int)=4-(r:Int):=by omega
  rw[t];have i:=h.af s;have p:=aa (show O 90 #[Z a,.agg #[A x.1,A x.2]] (W.alloc (.cells #[A x.1,A x.2] 36)) fun e I=>e=.returned (.bool o.list)/\Below (W.alloc (.cells #[A x.1,A x.2] 36)).heap.size (W.alloc (.cells #[A x.1,A x.2] 36)) I from by
   rw[<-i.kH.aO f];exact yL (i.q.af g.o) x.1 x.2)
  have C:=aa (fun c (m:J W c) (l:o.list=true)=>aid (i.af m) (by omega) (ih (by omega) c (i.af m)) x f l);have E:=aa (fun c (m:J W c) (l:o.list=false)=>aij (i.af m) (by omega) (ih (by omega) c (i.af m)) x f l);have F:eo R (r+1) x=vs (eo R r) o.list (ie o):=Q7 f r;rw[F];clear h i f ih F s;cases l:o.list
  ·rw[l]at p E
   go_enter func88,ntmps88;go_wp2_with fail
   refine p.o.mono ?_;rintro e u ⟨rfl,j⟩;have v:=aa (bj B.o j);have k:=aa (g.o.trans (j.mono g.o.size));clear j;obtain⟨L,M⟩:=bh v.o;have y:=aa (E.o u k.o (by trivial));go_wp2_with fail
   refine y.o.mono ?_;rintro e N ⟨rfl,n⟩;have z:=aa (k.o.trans (n.mono k.o.size));clear n;go_wp2;go_ret
   exact⟨rfl,z.o⟩
  ·rw[l]at p C
   go_enter func88,ntmps88;go_wp2_with fail
   refine p.o.mono ?_;rintro e u ⟨rfl,j⟩;have v:=aa (bj B.o j);have k:=aa (g.o.trans (j.mono g.o.size));clear j;obtain⟨L,M⟩:=bh v.o;have y:=aa (C.o u k.o (by trivial));go_wp2_with fail
   refine y.o.mono ?_;rintro e N ⟨rfl,n⟩;have z:=aa (k.o.trans (n.mono k.o.size));clear n;go_wp2;go_ret
   exact⟨rfl,z.o⟩
theorem ail{w D R}(h:wG w a b d D R):
  O 55 #[Z a] w fun e g=>e=.returned (.string (eo R 4 (0,0)))/\J w g:=by
 obtain⟨o,c⟩:=h.root;have i:=aa (show O 88 #[Z a,.agg #[A 0,A 0],A 1] w _ from aik 4 (by omega) w h w (aoQ _ _) (0,0) o c);clear h c;go_enter func55,ntmps55;go_wp2_with fail
 refine i.o.mono ?_;rintro e k ⟨rfl,f⟩;have j:=aa f;clear f;go_wp2;go_ret
 exact⟨rfl,j.o⟩
theorem aim{w F I N k M s x}(h:dJ w b F I N k M s x)(f:a<N)(g:wG w (x.q a).d (x.q a).aA (x.q a).be (x.q a).D (cn (s.ops a))):
  O 28 #[Z b,A a] w fun e l=>e=.returned (.tuple #[.string (eo (cn (s.ops a)) 4 (0,0)),A 0])/\J w l:=by
 have n:=aa (QM h.m a f);have p:=aa (x5 (h.m.eM a f));have r:=aa (fun W (t:J w W)=>ail (g.af t));clear h g;go_enter func28,ntmps28;go_wp2_with fail
 refine n.o.mono ?_;rintro e z ⟨rfl,u⟩;subst u;go_wp2_with fail
 refine p.o.mono ?_;rintro e v ⟨rfl,i⟩;have c:=aa i;clear i;go_wp2_with fail
 refine(r.o v c.o).mono ?_;rintro e B ⟨rfl,j⟩;have y:=aa (c.o.trans (j.mono c.o.size));clear j;go_wp2;go_ret2
 exact⟨rfl,y.o⟩
end
section
open Go.RowKit Tryz
variable {a b e r:Nat}{d:ba}{f:List ba}{h:Nat->List av}{i q:Nat->Prop}{j:PId}{k:World}{l:bO}{m:bU}{n:dc}
def eb:List bU->Nat
 |[]=>0
 |s::l=>s.ad.length+eb l
theorem Mf:∀(l m:List bU),eb (l++m)=eb l+eb m
 |[],m=>by simp[eb]
 |s::l,m=>by
  show s.ad.length+eb (l++m)=s.ad.length+eb l+eb m;rw[Mf l m];omega
theorem ain{l m:List bU}(h:l.Perm m):eb l=eb m:=by
 induction h with
 |nil=>rfl
 |cons x _ ih=>unfold eb;rw[ih]
 |swap x y l=>unfold eb;unfold eb;omega
 |trans _ _ a b=>exact a.trans b
theorem YU(l:List bU)(k:Nat)(a:ByteArray)(x:PId):eb (lr l k (me a x))=eb l:=by
 unfold lr;have h:=Mf (l.take k) (l.drop k);rw[aqk]at h;rw[Mf,h];show _+(0+eb (l.drop k))=_;omega
theorem YV(l:List bU)(k:Nat)(s:bU):(lr l k s).length=l.length+1:=by
 unfold lr;rw[aoW,apd];have :=congrArg List.length (aqk k l);rw[aoW]at this;omega
theorem YW{f:bU->bU}(a:∀s,(f s).ad.length<=s.ad.length+1):∀(l:List bU) (k:Nat),eb (l.modify k f)<=eb l+1
 |[],k=>by simp[eb]
 |s::l,0=>by
  rw[arx];have :=a s;unfold eb;omega
 |s::l,k+1=>by
  rw[ary];have :=YW a l k;unfold eb;omega
theorem Rb{s:bU}:∀{l:List bU},s∈l->s.ad.length<=eb l
 |y::l,h=>by
  unfold eb;rcases ao3.1 h with rfl|h
  ·omega
  ·have :=Rb h;omega
theorem YX(b:List PId)(a:List cE)(kind:Int)(y:cE):(hb b a kind y).length<=a.length+1:=by
 unfold hb;rw[aoW];have c:(unnamed b a).length<=a.length:=apK _ _;have d:(if kind=3 then[y] else[]).length<=1:=by split <;>simp
 omega
theorem aio(p:bu)(o:ba):eb (e9 p o).ss<=eb o.ss+1/\(e9 p o).ss.length<=o.ss.length+1:=by
 unfold e9;split
 ·split
  ·show eb (oD _ _ _)<=_/\(oD _ _ _).length<=_
   unfold oD;split
   ·rw[YU,YV];omega
   ·split
    ·omega
    ·rw[YU,YV];omega
  ·omega
 ·split
  ·show eb (kN _ _ _ _ _ _ _)<=_/\(kN _ _ _ _ _ _ _).length<=_
   unfold kN;split
   ·split
    ·omega
    ·have :=YX p.old [] p.kind p.held
     rw[Mf,aoW];show eb o.ss+((hb p.old [] p.kind p.held).length+0)<=_/\_+1<=_;simp only[apv]at this;omega
   ·rw[List.length_modify]
    exact⟨YW (fun s=>YX _ _ _ _) _ _,by omega⟩
  ·omega
theorem Mg{p:bu}(a:bl (b0 f p) j=some d):bl f j=some d\/d.ss=[]\/(p.kind≠1/\∃b,bl f j=some b/\d=e9 p b):=by
 by_cases e:p.kind=1
 ·rw[wh e]at a
  cases c:bl f j with
  |some b=>rw[c]at a;exact .inl a
  |none=>
   rw[c]at a;simp only at a;split at a
   ·cases a
    exact .inr (.inl rfl)
   ·cases a
 ·rw[zj e]at a
  split at a
  ·cases c:bl f j with
   |none=>rw[c]at a;cases a
   |some b=>rw[c]at a;exact .inr (.inr ⟨e,b,rfl,by simpa using a.symm⟩)
  ·exact .inl a
theorem aip{p:bu}(h:m∈(e9 p d).ss):(∃s0∈d.ss,s0.key=m.key)\/m.key=p.key\/m.key=⟨#[]⟩:=by
 unfold e9 at h;split at h
 ·split at h
  ·rcases Ig h with h|rfl
   ·exact .inl ⟨m,h,rfl⟩
   ·exact .inr (.inr rfl)
  ·exact .inl ⟨m,h,rfl⟩
 ·split at h
  ·unfold kN at h
   simp only at h;split at h
   ·split at h
    ·exact .inl ⟨m,h,rfl⟩
    ·rcases aoZ.1 h with h|h
     ·exact .inl ⟨m,h,rfl⟩
     ·obtain rfl:=ao2.1 h
      exact .inr (.inl rfl)
   ·rcases FO h with h|⟨s0,a,rfl⟩
    ·exact .inl ⟨m,h,rfl⟩
    ·exact .inl ⟨s0,a,rfl⟩
  ·exact .inl ⟨m,h,rfl⟩
theorem YY{c:List PId}{b:List cE}{kind:Int}{y h:cE}(a:h∈hb c b kind y):h∈b\/(kind=3/\h=y):=by
 unfold hb at a;rcases aoZ.1 a with a|a
 ·exact .inl (apA.1 a).1
 ·split at a
  ·rename_i d
   exact .inr ⟨d,by simpa using a⟩
  ·cases a
theorem YZ{p:bu}(h:m∈(e9 p d).ss){y:cE}(a:y∈m.ad):(∃s0∈d.ss,y∈s0.ad)\/(p.kind=3/\y=p.held):=by
 unfold e9 at h;split at h
 ·split at h
  ·rcases Ig h with h|rfl
   ·exact .inl ⟨m,h,a⟩
   ·cases a
  ·exact .inl ⟨m,h,a⟩
 ·split at h
  ·unfold kN at h
   simp only at h;split at h
   ·split at h
    ·exact .inl ⟨m,h,a⟩
    ·rcases aoZ.1 h with h|h
     ·exact .inl ⟨m,h,a⟩
     ·obtain rfl:=ao2.1 h
      rcases YY a with b|b
      ·cases b
      ·exact .inr b
   ·rcases FO h with h|⟨s0,c,rfl⟩
    ·exact .inl ⟨m,h,a⟩
    ·rcases YY a with b|b
     ·exact .inl ⟨s0,c,b⟩
     ·exact .inr b
  ·exact .inl ⟨m,h,a⟩
structure o5 (R:List ba) (n:Nat):Prop where
 nums:∀x o,bl R x=some o->∀s∈o.ss,∀h∈s.ad,ka h.num
 sz:∀x o,bl R x=some o->∀s∈o.ss,∀h∈s.ad,∃o',bl R h.obj=some o'
 uW:∀x o,bl R x=some o->∀s∈o.ss,s.key.size<=4
 cnt:∀x o,bl R x=some o->eb o.ss<=n/\o.ss.length<=n
theorem o5.mo{R}(h:o5 R a){p:bu}(k:p.kind=3->ka p.num/\∃o,bl R p.obj=some o)(l:p.key.size<=4):o5 (b0 R p) (a+1):=by
 refine⟨fun x o b s c y d=> ?_,fun x o b s c y d=> ?_,fun x o b s c=> ?_,fun x o b=> ?_⟩
 ·rcases Mg b with b|b|⟨_,f,g,rfl⟩
  ·exact h.nums x o b s c y d
  ·rw[b]at c;cases c
  ·rcases YZ c d with⟨s0,i,d⟩|⟨j,rfl⟩
   ·exact h.nums x f g s0 i y d
   ·exact(k j).1
 ·apply FP
  rcases Mg b with b|b|⟨_,f,g,rfl⟩
  ·exact h.sz x o b s c y d
  ·rw[b]at c;cases c
  ·rcases YZ c d with⟨s0,i,d⟩|⟨j,rfl⟩
   ·exact h.sz x f g s0 i y d
   ·exact(k j).2
 ·rcases Mg b with b|b|⟨_,f,g,rfl⟩
  ·exact h.uW x o b s c
  ·rw[b]at c;cases c
  ·rcases aip c with⟨s0,i,e⟩|e|e
   ·rw[<-e];exact h.uW x f g s0 i
   ·rw[e];exact l
   ·rw[e];exact aoR _
 ·rcases Mg b with b|b|⟨_,f,g,rfl⟩
  ·have :=h.cnt x o b;omega
  ·rw[b];exact⟨aoR _,aoR _⟩
  ·have m:=h.cnt x f g
   have n:=aio p f;omega
theorem o5.root:o5 c2 0:=by
 have b:∀x o,bl c2 x=some o->o.ss=[]:=fun x o h=>by
  unfold bl c2 at h;simp only[aqB,List.find?_nil]at h;split at h
  ·cases h;rfl
  ·cases h
 refine⟨fun x o h s a=> ?_,fun x o h s a=> ?_,fun x o h s a=> ?_,fun x o h=> ?_⟩
 ·rw[b x o h]at a;cases a
 ·rw[b x o h]at a;cases a
 ·rw[b x o h]at a;cases a
 ·rw[b x o h];exact⟨aoP _,aoP _⟩
def r7 (p:bu):Prop:=ka p.num/\p.key.size<=4
theorem o5.all:∀(S:List bu) (R:List ba) (I M:List PId) (n:Nat),o5 R n->(∀x∈M,∃o,bl R x=some o)->DH I M S->(∀p∈S,r7 p)->o5 (S.foldl b0 R) (n+S.length)
 |[],_,_,_,_,h,_,_,_=>h
 |p::S,R,I,M,n,h,b,f,d=>by
  obtain⟨l,m,r,s,g,i⟩:=f;have e:=d p ao6;have j:=h.mo (p:=p) (fun c=>⟨e.1,b _ (g c)⟩) e.2;rw[aqr,apd,show n+(S.length+1)=(n+1)+S.length by omega];refine o5.all S (b0 R p) _ _ (n+1) j (fun x a=> ?_) i fun q k=>d q (apa _ k)
  split at a
  ·rename_i c
   rcases ao3.1 a with rfl|a
   ·exact XZ c
   ·exact FP p (b x a)
  ·exact FP p (b x a)
theorem Y0(c:ByteArray)(b:ByteArray->Nat):∀(l:List ByteArray),(lF c l).size<=(l.map fun y=>y.size+c.size).sum:=by
 intro l;cases l with
 |nil=>exact aoR _
 |cons x l=>
  have :∀(l:List ByteArray) (a:ByteArray),(l.foldl (fun s y=>(s++c)++y) a).size=a.size+(l.map fun y=>y.size+c.size).sum:=by
   intro l
   induction l with
   |nil=>intro a;simp
   |cons y l ih=>
    intro a;rw[aqr,ih,jV,jV,apb,List.sum_cons];omega
  show(l.foldl (fun s y=>(s++c)++y) x).size<=_;rw[this,apb,List.sum_cons];omega
theorem Y1 {α:Type} (f:α->Nat) (B:Nat):∀(l:List α),(∀x∈l,f x<=B)->(l.map f).sum<=l.length*B
 |[],_=>by simp
 |x::l,h=>by
  rw[apb,List.sum_cons,apd,aqJ];have b:=h x ao6;have c:=Y1 f B l fun y a=>h y (apa _ a)
  omega
theorem aiq(a:PId->ByteArray)(B:Nat)(b:∀x,(a x).size<=B)(l:List cE)(c:∀h∈l,ka h.num):(qy a l).size<=l.length*(B+22):=by
 unfold qy;refine aoS (Y0 bar (fun _=>0) _) ?_;rw[apI];have :=Y1 ((fun y:ByteArray=>y.size+bar.size)∘j9 a) (B+22) (uk l) fun h d=>by
  show(j9 a h).size+1<=_;unfold j9;split
  ·have :=V3 h.num (c h (Q6.1 d));omega
  ·have :=b h.obj;omega
 rw[YM]at this;exact this
theorem Y2(a:PId->ByteArray)(b:Bool)(B:Nat):∀(M:List bU),(∀s∈M,s.key.size<=4/\(qy a s.ad).size<=s.ad.length*(B+22))->(((M.filter l1).map (mX a b)).map fun y=>y.size+1).sum<=M.length*6+eb M*(B+22)
 |[],_=>by simp
 |s::M,h=>by
  have ih:=Y2 a b B M fun y c=>h y (apa _ c)
  obtain⟨e,f⟩:=h s ao6;have g:(mX a b s).size<=5+s.ad.length*(B+22):=by
   unfold mX;have i:colon.size=1:=rfl;split
   ·omega
   ·rw[jV,jV];omega
  have d:eb (s::M)*(B+22)=s.ad.length*(B+22)+eb M*(B+22):=by
   show(s.ad.length+eb M)*(B+22)=_;rw[apV]
  rw[d,apd,aq3];split
  ·rw[apb,apb,List.sum_cons]
   omega
  ·omega
theorem air(a:PId->ByteArray)(b:Bool)(B:Nat)(M:List bU)(h:∀s∈M,s.key.size<=4/\(qy a s.ad).size<=s.ad.length*(B+22)):(yn a b M).size<=M.length*6+eb M*(B+22):=by
 unfold yn;exact aoS (Y0 comma (fun _=>0) _) (Y2 a b B M h)
def lJ:Nat->Nat
 |0=>1
 |r+1=>2+240*(28+lJ r)
theorem ais(b:a<=3):240*(28+lJ a)<=100000000000:=by
 have c:lJ 0=1:=rfl;have d:lJ 1=2+240*(28+lJ 0):=rfl;have e:lJ 2=2+240*(28+lJ 1):=rfl;have f:lJ 3=2+240*(28+lJ 2):=rfl;have :a=0\/a=1\/a=2\/a=3:=by omega
 rcases this with rfl|rfl|rfl|rfl<;>omega
theorem o5.Ld(h:o5 f e)(c:∀j,(eo f b j).size<=a)(g:bl f j=some d)(i:m∈d.ss):(qy (eo f b) m.ad).size<=m.ad.length*(a+22):=aiq _ a c _ (h.nums j d g m i)
theorem o5.Hy(h:o5 f e)(m:e<=240)(k:∀j,(eo f b j).size<=a)(g:bl f j=some d):(yn (eo f b) d.list (ie d)).size<=240*(28+a):=by
 have c:(ie d).Perm d.ss:=by
  unfold ie pk;split
  ·exact .refl _
  ·exact aqy _ _
 have l:=air (eo f b) d.list a (ie d) fun s i=>⟨h.uW j d g s (c.mem_iff.1 i),h.Ld k g (c.mem_iff.1 i)⟩
 rw[c.length_eq,ain c]at l;obtain⟨n,o⟩:=h.cnt j d g;have p:eb d.ss*(a+22)<=240*(a+22):=apJ _ (by omega);omega
theorem o5.Le(h:o5 f a)(c:a<=240)(r:Nat):∀x:PId,(eo f r x).size<=lJ r:=by
 induction r with
 |zero=>exact fun x=>aoP 1
 |succ r ih=>
  intro x;cases b:bl f x with
  |none=>
   show(match bl f x with |some o=>vs (eo f r) o.list (ie o)|none=>⟨#[]⟩).size<=_;rw[b];exact aoR _
  |some o=>
   rw[Q7 b];have :=h.Hy c ih b;show _<=2+240*(28+lJ r);unfold vs;have d:(⟨#[91]⟩:ByteArray).size=1:=rfl;have e:(⟨#[93]⟩:ByteArray).size=1:=rfl;have g:(⟨#[123]⟩:ByteArray).size=1:=rfl;have i:(⟨#[125]⟩:ByteArray).size=1:=rfl;split <;>simp only[jV]<;>omega
theorem Y3 {κ ν:Type} [DecidableEq κ] (x:κ) (v:ν):∀m:List (κ×ν),(cv x v m).length<=m.length+1
 |[]=>by simp[cv]
 |p::m=>by
  unfold cv;split
  ·simp
  ·have :=Y3 x v m
   simp;omega
theorem ait{m o}{D:cN}(h:∀p∈D.1,p.2.ks.length<=a)(d:l0 D o m):∀p∈m.1,p.2.ks.length<=a+1:=by
 have e:∀p∈D.1,p.2.ks.length<=a+1:=fun p c=>Nat.le_succ_of_le (h p c)
 have q:∀{f x:PId} {i:ByteArray} {v:Option Nat} {j:List (PId×dR)},AK D f i x v j m->∀p∈m.1,p.2.ks.length<=a+1:=by
  intro f x i v j k p c;rcases k with⟨_,y,z,rfl⟩|⟨_,B,g,r,n,s,rfl⟩
  ·exact e p c
  ·rcases og c with c|rfl
   ·exact e p c
   ·have C:=Y3 i (⟨v,j⟩:qL) r
    have t:=h _ (fQ n);have E:=s.length_eq;show(cv i (⟨v,j⟩:qL) r).length<=a+1;simp only at t;omega
 obtain⟨id,F,u⟩:=o;rcases u with l|⟨x,b⟩|⟨f,i,x,I,w⟩|⟨f,i,x,w⟩
 ·simp only[l0]at d
  subst d;intro p c;rcases og c with c|rfl
  ·exact e p c
  ·exact aoR _
 ·simp only[l0]at d
  subst d;unfold mj;split
  ·exact e
  ·rename_i f n
   split
   ·exact e
   ·split
    ·intro p c
     rcases og c with c|rfl
     ·exact e p c
     ·exact(show f.ks.length<=a+1 from e (x,f) (fQ n))
    ·split
     ·exact e
     ·split
      ·exact e
      ·exact e
 ·simp only[l0,AM]at d
  split at d
  ·obtain⟨v,j,c,k⟩:=d
   exact q k
  ·subst d;exact e
 ·simp only[l0,AL]at d
  split at d
  ·obtain⟨v,j,c,k⟩:=d
   exact q k
  ·subst d;exact e
theorem Y4:∀(l:List nP) {D a:cN} {n:Nat},(∀p∈D.1,p.2.ks.length<=n)->mN D l a->∀p∈a.1,p.2.ks.length<=n+l.length
 |[],D,a,n,h,b=>by
  have e:a=D:=b;subst e;exact h
 |o::l,D,a,n,h,b=>by
  obtain⟨g,c,d⟩:=b;have :=Y4 l (ait h c) d;intro p f;have :=this p f;rw[apd];omega
def BF (N:Nat) (M:Nat->List av):Prop:=∀c,c<N->∀o∈M c,r7 (eU o.op)
theorem BF.add(c:BF a h){o:av}(i:r7 (eU o.op)):BF a (pP h b o):=by
 intro e f y d;by_cases g:e=b
 ·subst g
  rw[nz]at d;rcases aoZ.1 d with d|d
  ·exact c e f y d
  ·obtain rfl:=ao2.1 d
   exact i
 ·rw[rh _ _ g]at d
  exact c e f y d
theorem Y5:∀(S:List bu) (R:List ba),(∃o,bl R (0,0)=some o)->∃o,bl (S.foldl b0 R) (0,0)=some o
 |[],_,h=>h
 |p::S,R,h=>Y5 S (b0 R p) (FP p h)
theorem dJ.nice(c:dJ k e i q b r h l n)(g:BF b h)(f:a<b):o5 (cn (l.ops a)) (l.ops a).length:=by
 have :=o5.all ((l.ops a).map fun o=>eU o.op) c2 [] [(0,0)] 0 o5.root (fun n j=>by
  obtain rfl:=ao2.1 j;exact⟨⟨(0,0),false,[]⟩,rfl⟩) (Yp c.ok.made c.md (c.ok.copy a f) (c.ok.kd a f)) fun p m=>by
   obtain⟨o,s,rfl⟩:=aoX.1 m;obtain⟨d,t,u⟩:=(c.ok.copy a f).made s;exact g d t o u
 rw[aoU,apF]at this;exact this
theorem dJ.txt{I x}(c:dJ k b i I e r h l x)(w:Pow k)(M:BF e h)(u:a<e):wG k (x.q a).d (x.q a).aA (x.q a).be (x.q a).D (cn (l.ops a)):=by
 obtain⟨N,P,W⟩:=c.doc u;have s:=c.nice M u;have B:=c.len u;have C:=(c.m.eM a u).jM.did;rw[<-aoU (f:=fun o:av=>o.op),aqa]at C;obtain⟨_,_,Q,R⟩:=c.m.kH a u;have E:mN (x.q a).D0.1 ((x.q a).D0.2++(l.kept a).map (·.op)) (x.q a).D:=C;rw[R,<-ao8,<-c.m.mU a u]at E;have F:=Y4 _ (n:=0) (fun p w=>by rw[Q p w];exact aoP _) E;rw[aoU]at F;refine⟨(c.m.eM a u).jM.q,N,P,w,Y5 _ _ ⟨⟨(0,0),false,[]⟩,rfl⟩,s.nums,s.sz,fun p S=>by have :=F p S;omega,fun y o t=>by have :=(s.cnt y o t).2;omega,fun y o t z v=>⟨by have g:=(s.cnt y o t).1;have j:=Rb v;omega,s.uW y o t z v⟩,fun b U y o t=> ?_⟩;have L:=s.Le B b;have X:=ais U;refine⟨aoS (s.Hy B L t) (by omega),fun z v=>aoS (s.Ld L t v) ?_⟩;have g:=(s.cnt y o t).1;have j:=Rb v;have :z.ad.length*(lJ b+22)<=240*(lJ b+22):=apJ _ (by omega);omega
theorem aiu(c:dJ k e i q a r h l n)(g:Pow k)(j:BF a h)(f:b<a):O 28 #[Z e,A b] k fun d m=>d=.returned (.tuple #[.string (eo (cn (l.ops b)) 4 (0,0)),A 0])/\J k m:=aim c f (c.txt g j f)
end
section
variable {a:List PId}{b:PId}{d:ba}
def o6 (R:List ba) (pre:List PId):Prop:=∀o∈R,∀s∈o.ss,(s.ad.Pairwise fun a b=>eK a.cD b.cD=true)/\∀h∈s.ad,h.cD∈pre
theorem Y6{e:List cE}{pre:List PId}{kind:Int}{y:cE}(h:(e.Pairwise fun c b=>eK c.cD b.cD=true)/\∀h∈e,h.cD∈pre)(i:∀q∈pre,eK q y.cD=true):((hb a e kind y).Pairwise fun c b=>eK c.cD b.cD=true)/\∀h∈hb a e kind y,h.cD∈pre++[y.cD]:=by
 have f:(unnamed a e).Sublist e:=by unfold unnamed;exact List.filter_sublist
 unfold hb;refine⟨ap9.2 ⟨h.1.sublist f,by split <;>simp,fun c j b g=> ?_⟩,fun x d=> ?_⟩
 ·split at g
  ·obtain rfl:=ao2.1 g
   exact i _ (h.2 c (f.subset j))
  ·cases g
 ·rcases aoZ.1 d with d|d
  ·exact apR _ (h.2 x (f.subset d))
  ·split at d
   ·obtain rfl:=ao2.1 d
    exact aqA _ ao6
   ·cases d
theorem aiv{l:List bU}{c:Bool}{d:ByteArray}{kind:Int}{y:cE}{s:bU}(h:s∈kN l c d b a kind y):s∈l\/s.ad=hb a [] kind y\/∃s0∈l,s.ad=hb a s0.ad kind y:=by
 unfold kN at h;split at h
 ·split at h
  ·exact .inl h
  ·rcases aoZ.1 h with h|h
   ·exact .inl h
   ·obtain rfl:=ao2.1 h
    exact .inr (.inl rfl)
 ·rcases FO h with h|⟨e,f,rfl⟩
  ·exact .inl h
  ·exact .inr (.inr ⟨e,f,rfl⟩)
theorem o6.mo{R pre}(h:o6 R pre)(p:bu)(i:∀q∈pre,eK q p.id=true):o6 (b0 R p) (pre++[p.id]):=by
 have mono:∀{s:bU},((s.ad.Pairwise fun a b=>eK a.cD b.cD=true)/\∀h∈s.ad,h.cD∈pre)->((s.ad.Pairwise fun a b=>eK a.cD b.cD=true)/\∀h∈s.ad,h.cD∈pre++[p.id]):=fun{s} j=>⟨j.1,fun x f=>apR _ (j.2 x f)⟩
 intro o d s c;unfold b0 at d;split at d
 ·rcases aoZ.1 d with d|d
  ·exact mono (h o d s c)
  ·obtain rfl:=ao2.1 d
   cases c
 ·split at d
  ·exact mono (h o d s c)
  ·rcases FO d with d|⟨y,k,rfl⟩
   ·exact mono (h o d s c)
   ·have g:=h y k
    unfold e9 at c;split at c
    ·split at c
     ·rcases Ig c with c|rfl
      ·exact mono (g s c)
      ·exact⟨List.Pairwise.nil,fun x f=>by cases f⟩
     ·exact mono (g s c)
    ·split at c
     ·rcases aiv c with c|e|⟨s0,l,e⟩
      ·exact mono (g s c)
      ·rw[e]
       exact Y6 (y:=p.held) ⟨List.Pairwise.nil,fun x f=>(by cases f)⟩ i
      ·rw[e]
       exact Y6 (y:=p.held) (g s0 l) i
     ·exact mono (g s c)
theorem o6.all:∀(S:List bu) {R:List ba} {pre:List PId},o6 R pre->(∀q∈pre,∀p∈S,eK q p.id=true)->(S.Pairwise fun a b=>eK a.id b.id=true)->o6 (S.foldl b0 R) (pre++S.map (·.id))
 |[],R,pre,h,_,_=>by simpa using h
 |p::S,R,pre,h,d,f=>by
  obtain⟨g,i⟩:=apP.1 f;have :=o6.all S (h.mo p fun q c=>d q c p ao6) (fun q c r e=>by
   rcases aoZ.1 c with c|c
   ·exact d q c r (apa _ e)
   ·obtain rfl:=ao2.1 c
    exact g r e) i
  rw[aqr,apb];rw[apf]at this;exact this
theorem o6.of{c}(d:pH c):o6 (cn c) (c.map fun o=>o.op.id):=by
 have :=o6.all (c.map fun o=>eU o.op) (R:=c2) (pre:=[]) (fun o f s g=>by
  obtain rfl:=ao2.1 f;cases g) (fun q i=>by cases i) (apB.2 (d.imp fun{a b} h=>by rw[pO,pO];exact h))
 rw[apN,apI]at this;have e:(fun x=>x.id)∘(fun o:av=>eU o.op)=fun o=>o.op.id:=by
  funext o;exact pO o.op
 rw[e]at this;exact this
theorem o6.BG{R}(h:o6 R a)(e:bl R b=some d)(c:ByteArray)(y:PId):mR ((fD d c y).map (·.cD)):=by
 unfold fD;cases f:d.ss.find? (eG c y) with
 |none=>exact List.Pairwise.nil
 |some s=>exact apB.2 (h d (aqi e) s (aqi f)).1
theorem aiw{l:List cE}(h:l.Pairwise fun a b=>eK a.cD b.cD=true):uk l=l:=by
 unfold uk;refine List.mergeSort_of_pairwise (h.imp fun{a b} h=> ?_);unfold ym;cases e:eK b.cD a.cD
 ·rfl
 ·have :=A7 h e
  rw[uc]at this;cases this
theorem aix{R:List ba}(a:bl R b=some d):∀r:Nat,0<(eo R r b).size
 |0=>by show 0<(1:Nat);omega
 |r+1=>by
  rw[Q7 a];unfold vs;split
  ·rw[jV,jV]
   show 0<1+_+1;omega
  ·rw[jV,jV]
   show 0<1+_+1;omega
theorem Y7(a:PId->ByteArray)(l:List cE):kP a l=lF bar (l.map (j9 a)):=by
 cases l with
 |nil=>rfl
 |cons h l=>
  show l.foldl (fun s x=>(s++bar)++j9 a x) (j9 a h)=(l.map (j9 a)).foldl (fun s y=>(s++bar)++y) (j9 a h);rw[List.foldl_map]
theorem Y8{s:bU}(h:s∈ie d):s∈d.ss:=by
 unfold ie at h;split at h
 ·exact h
 ·unfold pk at h
  exact List.mem_mergeSort.1 h
theorem o6.text{R g n}(h:o6 R g)(d:o5 R n):∀(r:Nat) (x:PId),oG R r x=eo R r x
 |0,_=>rfl
 |r+1,x=>by
  unfold oG eo;show(match bl R x with |some o=>uC (oG R r) o.list (ie o)|none=>⟨#[]⟩)=_;cases f:bl R x with
  |none=>rfl
  |some o=>
   have ih:oG R r=eo R r:=funext fun y=>o6.text h d r y
   show uC (oG R r) o.list (ie o)=vs (eo R r) o.list (ie o);rw[ih];have i:∀s∈o.ss,qy (eo R r) s.ad=kP (eo R r) s.ad:=fun s a=>by
    unfold qy;rw[aiw (h o (aqi f) s a).1,Y7]
   have j:lS (eo R r) o.list (ie o)=yn (eo R r) o.list (ie o):=by
    rw[afm]
    ·unfold yn
     congr 1;refine aqq fun s a=> ?_
     have b:=Y8 (apA.1 a).1;unfold xT mX;rw[i s b]
    ·intro s a c
     have b:=Y8 a;have k:0<(kP (eo R r) s.ad).size:=by
      rw[Y7];refine V5 bar ?_ fun y l=> ?_
      ·unfold l1 at c
       intro e;have :s.ad=[]:=List.map_eq_nil_iff.1 e;rw[this]at c;simp at c
      ·obtain⟨q,m,rfl⟩:=aoX.1 l
       unfold j9;split
       ·exact afi _
       ·obtain⟨t,p⟩:=d.sz x o f s b q m
        exact aix p r
     unfold xT;split
     ·exact k
     ·rw[jV]
      omega
   unfold uC vs;rw[j]
end
end Go.Proofs.YtnkpogjiiohapaaGreatDoor
