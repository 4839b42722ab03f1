/- Our own text. -/
import Derived.Shelf.SlicesE.Kit
import Derived.BigQuiet
import Derived.Test.YtnkpogjiiohapaaGreatDoorA18
import Derived.Test.YtnkpogjiiohapaaGreatDoorA16
import Derived.Test.YtnkpogjiiohapaaGreatDoorA17
import Derived.Test.YtnkpogjiiohapaaGreatDoorA07
set_option linter.unusedSimpArgs false
set_option linter.unusedVariables false
set_option maxRecDepth 1000000
set_option maxHeartbeats 4000000
namespace Go.Proofs.YtnkpogjiiohapaaGreatDoor
section
open Go.RowKit Tryz
attribute [local go_sem ↓] Go.wp_at_zero Go.wp_at_succ
variable {a d e k r:Nat}{b:World}{f:List av}{h j:Nat->Prop}{i:fU}{l q:Nat->Int}{m:List Int}{n:Value}
structure agH (w:World) (I:Nat->Prop) (g off:Nat) (xs:List av):Prop where
 cells:∀k (hk:k<xs.length),w.cell? (K g (off+k*4))=some (A xs[k].op.id.1)/\w.cell? (K g (off+k*4+1))=some (A xs[k].op.id.2)/\w.cell? (K g (off+k*4+2))=some (A xs[k].op.nth)/\w.cell? (K g (off+k*4+3))=some (.iface xs[k].t xs[k].v)
 Qg:I g
 off:off<=100000
def opsV (w:World) (I:Nat->Prop) (v:Value) (b:List av):Prop:=∃a c,v=.slice a b.length c/\b.length<=c/\c<=9223372036854775807/\(0<b.length->∃g d,a=some (K g d)/\agH w I g d b)/\∀x∈b,pF w I (.iface x.t x.v) x.op.chg
theorem opsV.gU{w I v f}{d:World}{e:Nat->Prop}(h:opsV w I v f)(j:∀k,I k->d.heap[k]?=w.heap[k]?)(l:∀k,I k->e k):opsV d e v f:=by
 obtain⟨a,m,n,o,p,q,r⟩:=h;refine⟨a,m,n,o,p,fun s=> ?_,fun x t=>(r x t).gU j l⟩;obtain⟨g,u,y,b⟩:=q s;have c:∀i,d.cell? (K g i)=w.cell? (K g i):=fun i=>by simp[World.cell?,j g b.Qg]
 refine⟨g,u,y,⟨fun k z=> ?_,l _ b.Qg,b.off⟩⟩;rw[c,c,c,c];exact b.cells k z
def iF (has:Nat->Int) (m:List (PId×av)) (xs:List av):List (PId×av):=xs.foldl (fun m x=>if has x.op.id.2.toNat<x.op.nth then cv (dX x) x m else m) m
theorem agI{has:Nat->Int}{m:List (PId×av)}{xs:List av}(b:a<xs.length):iF has m (xs.take (a+1))=if has xs[a].op.id.2.toNat<xs[a].op.nth then cv (dX xs[a]) xs[a] (iF has m (xs.take a)) else iF has m (xs.take a):=by
 rw[aph b];unfold iF;rw[apX];rfl
theorem Xi{a:Nat->Int}:∀{xs:List av} {m:List (PId×av)} {p:PId×av},p∈iF a m xs->p∈m\/∃x∈xs,p=(dX x,x)
 |[],m,p,h=>.inl h
 |x::xs,m,p,h=>by
  have d:p∈iF a (if a x.op.id.2.toNat<x.op.nth then cv (dX x) x m else m) xs:=h;rcases Xi d with b|⟨y,e,f⟩
  ·split at b
   ·rcases og b with c|c
    ·exact .inl c
    ·exact .inr ⟨x,ao6,c⟩
   ·exact .inl b
  ·exact .inr ⟨y,apa _ e,f⟩
theorem Xj{a:Nat->Int}:∀{xs:List av} {m:List (PId×av)},(m.map (·.1)).Nodup->((iF a m xs).map (·.1)).Nodup
 |[],m,h=>h
 |x::xs,m,h=>by
  refine Xj (xs:=xs) (m:=if a x.op.id.2.toNat<x.op.nth then cv (dX x) x m else m) ?_;split
  ·exact CS h
  ·exact h
theorem Qh(c a b:Int)(d:TypeId)(f:Value)(w:World):
  O 280 #[.agg #[A c,A a,A b,.iface d f]] w fun e g=>e=.returned (.agg #[A a,A b])/\J w g:=by
 have h:=aa (((aoQ w.heap.size w).alloc (aoP _) (.cells #[A c,A a,A b,.iface d f] 210)).alloc (by simp) (.cells #[A a,A b] 371));go_enter func280,ntmps280;go_wp2_with fail
 refine bodyPost_ret (v:=.agg #[A a,A b]) (by simp[results,results280,go_sem]) rfl ?_;exact⟨rfl,h.o⟩
theorem Xk{e:TypeId}{size:Nat}{c:List Value}(h:b.ownsRow d e size n a c):b.ownsRow 0 e size n a c:=by
 refine⟨h.1,?_⟩;rcases h.2 with f|⟨g,i,j,rfl,k,rest⟩
 ·exact .inl f
 ·exact .inr ⟨g,i,j,rfl,aoR _,rest⟩
theorem agJ{m:List (PId×av)}{c:Int}{n:Int}{x:av}(h:x∈hO m c n a):∃p∈m,p.2=x:=by
 obtain⟨j,b,rfl⟩:=apl.1 h;exact⟨_,fQ (run_get m c a n j b),rfl⟩
theorem LB{m:List (PId×av)}{has:Nat->Int}{x:av}(h:x∈iq m has a):∃p∈m,p.2=x:=by
 unfold iq at h;obtain⟨i,_,b⟩:=api.1 h;exact agJ b
theorem agK{F gt has early}(h:dx b d F j a e k gt has f early i)(u:List av)(aH:opsV b j n u)(I:∀x∈u,0<=x.op.id.2/\x.op.id.2<a)(cB:((iF has early u).map (·.1)).Nodup)(qo:∀p∈iF has early u,p.1.2<=60)(ik:∀s,s<a->0<=has s/\has s<=1000)(o0:((iq (iF has early u) has a++f).map fun o=>o.op.id).Nodup)(hlen:f.length+(iq (iF has early u) has a).length<=300)(xL:∀x∈iq (iF has early u) has a,0<=x.op.id.2/\x.op.id.2<a):
  O 309 #[Z d,n] b fun l w'=>(∃r,l=.returned r)/\∃X Y ir,dx w' d X j a e k (nw gt (iq (iF has early u) has a)) (hasAll has (iq (iF has early u) has a)) (ja f (iq (iF has early u) has a)) ir Y/\vh (iF has early u) (qm (iF has early u) has a) ir/\Fl i Y/\c0 F X b w':=by
 obtain⟨dp,de,rfl,sD,ve,D,mK⟩:=aH;have Bf:=h.hN;have C:=aa h;clear h;have dN:=aa (And.intro D (And.intro mK I));clear D mK I;have gM:=aa (And.intro cB (And.intro qo (And.intro ik (And.intro o0 (And.intro hlen xL)))));clear cB qo ik o0 hlen xL;go_enter func309,ntmps309;go_wp2_with fail
 go_loopw [8] (fun s wr=>∃c,c<=u.length/\s=A (c:Nat)/\dx wr d F j a e k gt has f (iF has early (u.take c)) i/\aP (fun c=>c=i.il) b wr) (fun s _=>u.length-(intOf s).toNat)
 case atStart=>exact⟨0,aoR _,rfl,C.o,aP.cQ (aoQ _ _)⟩
 case round=>
  obtain⟨c,eh,rfl,B,v⟩:=hrel;by_cases aE:c<u.length
  ·obtain⟨g,off,rfl,D⟩:=dN.o.1 (by omega)
   obtain⟨ct,R,aw,cY⟩:=D.cells c aE;have q8:=D.Qg;have cP:=C.o.cJ _ q8;have LC:g≠i.il:=fun l=>C.o.eT _ q8 (l▸C.o.oZ)
   replace ct:=v.cell LC ct;replace R:=v.cell LC R;replace aw:=v.cell LC aw;replace cY:=v.cell LC cY;obtain⟨jm,ev⟩:=dN.o.2.2 u[c] (aoY aE);have p2:=aa (dN.o.2.1 u[c] (aoY aE));have E:=aa (agI (has:=has) (m:=early) aE);have ann:=D.off;have h5:(0:Int)<=(c:Int):=ao0 _;have c3:(c:Int)<(u.length:Int):=by omega
   obtain⟨x,ue⟩:∃x,x=u[c]:=⟨_,rfl⟩;rw[<-ue]at ct R aw cY jm ev p2 E;clear D ue;obtain⟨w,I⟩:∃w:Nat,x.op.id.2=(w:Int):=⟨x.op.id.2.toNat,by omega⟩;have HM:w<a:=by omega
   have W0:(0:Int)<=(w:Int):=ao0 _;have K2:(w:Int)<(a:Int):=by omega
   obtain⟨bc,a6,bd,bV,dC,im⟩:=B.cells;clear bc a6 bV im;have q7:=B.Fm HM;have lx:=aa I;have Fy:=aa (show dX x=((w:Int),x.op.nth) by unfold dX;rw[I]);rw[show x.op.id.2.toNat=w by omega]at E;rw[I]at R;obtain⟨EC,AG⟩:∃EC,EC=iF has early (u.take c):=⟨_,rfl⟩;rw[<-AG]at E B;clear AG;have z:=aa (And.intro B v);have od:=B.lt _ B.cd;have Bi:=B.lt _ B.fr;have yP:=aoV cP v.size;obtain⟨es,aR,hf⟩:=B.emap;have bM:=aa ((aoQ wr.heap.size wr).alloc (aoP _) (.cells #[A x.op.id.1,A w,A x.op.nth,.iface x.t x.v] 210));have aT:=aa (bL wr (.cells #[A x.op.id.1,A w,A x.op.nth,.iface x.t x.v] 210));have Dj:=aa (fun W (ab:J wr W)=>xc Lr (hf.af ab) underlying106 ((w:Int),x.op.nth) x);clear hf B v;by_cases c6:has w<x.op.nth
   ·rw[if_pos c6]at E
    go_wp2_with fail
    go_quiet (fail)
    go_wp2_with fail
    have tH:=aa (show J wr ((wr.alloc (.cells #[A x.op.id.1,A w,A x.op.nth,.iface x.t x.v] 210)).drewN nq) from below_drewN bM.o _);have Fz:=aa (show((wr.alloc (.cells #[A x.op.id.1,A w,A x.op.nth,.iface x.t x.v] 210)).drewN nq).heap[wr.heap.size]?=some (.cells #[A x.op.id.1,A w,A x.op.nth,.iface x.t x.v] 210 (0,0)) from aT.o);obtain⟨hd,Xl⟩:∃hd,(wr.alloc (.cells #[A x.op.id.1,A w,A x.op.nth,.iface x.t x.v] 210)).drewN nq=hd:=⟨_,rfl⟩;rw[Xl]at tH Fz⊢;clear Xl;obtain⟨eO,fL,kM,mJ⟩:=EY Fz.o;have d4:=af tH.o dC;clear dC bd q7 ct R aw cY;go_region_with (first
     |(go_at_call 280;refine(Qh _ _ _ _ _ _).mono ?_;rintro l w1 ⟨rfl,L⟩;have eS:J hd w1:=⟨L.os,L.tape,L.output,L.size,L.block⟩;have S:=aa (tH.o.trans (eS.mono tH.o.size));have Xf:=af eS d4;obtain⟨HS,p1',p2',p3'⟩:=EY (bj Fz.o eS);obtain⟨eV,fo,rJ,eQ⟩:=Dj.o w1 S.o;have Qi:=aa eQ;simp only[cX,PU,lx.o]at rJ;clear L eS eQ))
    all_goals(try go_wp2_with fail)
    all_goals
     refine⟨⟨c+1,by omega,by go_num,?_,?_⟩,by simp[intOf];omega⟩
     ·rw[E.o,Fy.o]
      refine(z.o.1.af S.o).Xa (aP.put _ rfl) ⟨_,_,Qi.o⟩ fun p U=> ?_
      rcases og U with U|rfl
      ·exact(z.o.1.af S.o).Bc p U
      ·exact p2.o.gU (fun q M=>(S.o.block q (z.o.1.cJ q M)).trans (z.o.2.other q (C.o.cJ q M) fun l=>C.o.eT q M (l▸C.o.oZ))) (fun _ y=>y)
     ·exact z.o.2.trans ((aP.cQ S.o).trans (aP.put _ rfl))
   ·rw[if_neg c6]at E
    go_wp2_with fail
    go_quiet (fail)
    go_wp2_with fail
    have gQ:J wr ((wr.alloc (.cells #[A x.op.id.1,A w,A x.op.nth,.iface x.t x.v] 210)).drewN nq):=below_drewN bM.o _;refine⟨⟨c+1,by omega,by go_num,?_,z.o.2.trans (aP.cQ gQ)⟩,by simp[intOf];omega⟩;rw[E.o];exact z.o.1.af gQ
  ·have hL:c=u.length:=by omega
   subst hL;rw[aqa]at B;have z:=aa (And.intro B v);clear B v;obtain⟨h1,h2,ak,aL,bW,eR⟩:=gM.o;have HRD:=aa (agw z.o.1 h1 h2 ak);clear h1 h2 ak aL bW eR;go_wp2_with fail
   refine HRD.o.mono ?_;rintro l w1 ⟨v1,Ly,rfl,mw,l2,Dl,mx⟩;obtain⟨b1,c4,rfl,_,_,_⟩:=bp mw;have N:=aa (And.intro mw (And.intro l2 (And.intro Dl mx)));clear mw l2 Dl mx;have P0:=aa (WX N.o.2.1 (iq (iF has early u) has a) gM.o.2.2.2.1 gM.o.2.2.2.2.1 gM.o.2.2.2.2.2 (.slice b1 (iq (iF has early u) has a).length c4) (Xk N.o.1) (fun c P hF=>by
    have h1:=(aoT N.o.1 c P).1;have h2:=z.o.1.lt c hF;omega) (fun x al=>by
    obtain⟨p,U,rfl⟩:=LB al;exact(z.o.1.Bc p U).gU (fun q M=>N.o.2.2.2.other q (z.o.1.cJ q M) fun l=>z.o.1.eT q M (l▸z.o.1.oZ)) (fun _ y=>y)))
   go_wp2_with fail
   refine P0.o.mono ?_;rintro l w2 ⟨⟨r,rfl⟩,X,Y,r0,Xm,mu⟩;have fc:=aa (And.intro r0 (And.intro Xm mu));clear r0 Xm mu;go_wp2;go_end0
   refine⟨⟨_,rfl⟩,X,Y,Ly,fc.o.1,N.o.2.2.1,fc.o.2.1,?_⟩;have v:=z.o.2.trans N.o.2.2.2;have Q:=fc.o.2.2;exact⟨Q.os.trans v.os,Q.tape.trans v.tape,Q.output.trans v.output,aoS v.size Q.size,fun c P hF=>(Q.other c (aoV P v.size) hF).trans (v.other c P fun l=>hF (l▸C.o.oZ)),fun c P=>(Q.sub c P).imp id fun y=>aoS v.size y⟩
structure q9 (w:World) (g cap N:Nat) (known:Nat->Int):Prop where
 cells:∀i,i<N->w.cell? (K g i)=some (A (known i))
 HT:N<=cap
 HU:cap<=9223372036854775807
 lt:g<w.heap.size
theorem q9.af{w g cap N a}{w':World}(h:q9 w g cap N a)(b:J w w'):q9 w' g cap N a:=
 ⟨fun i c=>Go.Proofs.YtnkpogjiiohapaaGreatDoor.af b (h.cells i c),h.HT,h.HU,aoV h.lt b.size⟩
def r2 (a:Nat->Int) (o:av):Bool:=decide (a o.op.id.2.toNat<o.op.nth)
theorem agL {α:Type} {f:α->Bool} {l:List α} (b:a<l.length):(l.take (a+1)).filter f=(l.take a).filter f++if f l[a] then[l[a]] else[]:=by
 rw[aph b,aqu];cases h:f l[a]<;>simp[h]
theorem agM{w p sp su dm cb l n rs d aA be F I D0 D gk hW N m}(h:kU w p sp su dm cb l n rs d aA be F I D0 D)(E:q9 w gk hW N m)(hN:N<=4)(q:∀x∈l,0<=x.op.id.2/\x.op.id.2<N)(cB:(l.map dX).Nodup):
  O 276 #[.pointer (some ⟨p,0,none⟩),.slice (some ⟨gk,0,none⟩) N hW] w fun e w'=>∃v M,e=.returned v/\fH w.heap.size w' v M/\M.Perm (l.filter (r2 m))/\x8 M/\Below w.heap.size w w':=by
 have W:=h.blk;unfold nr at W;obtain⟨bc,a6,bd,bV,dC⟩:=ga W;clear bc a6 bV dC;have hlen:=h.len;obtain⟨a,c,rfl,jk,dh,aD⟩:=bp h.row;unfold maxLen at dh;have du:=aa aD;have s:=aa (And.intro h (And.intro E (And.intro q cB)));clear h E q cB W aD;have A5:=s.o.2.1.HT;have Xn:=s.o.2.1.HU;go_enter func276,ntmps276;go_wp2_with fail
 go_loopw [5,13] (fun v i wr=>∃k,k<=l.length/\i=.int .i64 (k:Nat)/\fH w.heap.size wr v ((l.take k).filter (r2 m))/\Below w.heap.size w wr) (fun _ i _=>l.length-(intOf i).toNat)
 case atStart=>exact⟨0,aoR _,rfl,(show fH w.heap.size w (.slice none 0 0) [] from ao9 _ _ _ _),aoQ _ _⟩
 case round=>
  obtain⟨k,eh,rfl,y,r⟩:=hrel;by_cases P:k<l.length
  ·obtain⟨g,rfl⟩:=du.o k P
   obtain⟨ct,aj,aw,cY⟩:=fH.cells (c5 s.o.1.row r) k P;obtain⟨jm,ev⟩:=s.o.2.2.1 l[k] (aoY P);have L:=aa (agL (f:=r2 m) P);obtain⟨x,X⟩:∃x,x=l[k]:=⟨_,rfl⟩;rw[<-X]at ct aj aw cY jm ev L;obtain⟨b,q⟩:∃b:Nat,x.op.id.2=(b:Int):=⟨x.op.id.2.toNat,by omega⟩;have HM:b<N:=by omega
   have W0:(0:Int)<=(b:Int):=ao0 _;have K2:(b:Int)<(N:Int):=by omega
   have Bj:=(s.o.2.1.af r).cells b HM;have ano:=(s.o.2.1.af r).lt;have sj:=r.size;have cP:g<wr.heap.size:=ao4 wr _ ct;have h5:(0:Int)<=(k:Int):=ao0 _;have c3:(k:Int)<(l.length:Int):=by omega
   have aT:=aa X;clear X;rw[q]at aj;have z:=aa y;clear y;have B:=aa r;clear r;have hnk:=World.new_ne wr ⟨gk,b,none⟩ Bj;have k9:=aa (show r2 m x=decide (m b<x.op.nth) by unfold r2;rw[q];rfl);have yO:=aa q;obtain⟨C,Y⟩:∃C,C=(l.take k).filter (r2 m):=⟨_,rfl⟩;rw[<-Y]at z L;have nx:C.length<=300:=by
    rw[Y];have h1:=apK (r2 m) (l.take k);rw[ao7]at h1;omega
   clear Y;obtain⟨dp,de,rfl,sD,ve,td⟩:=bp z.o;clear td;unfold maxLen at ve;by_cases Xo:m b<x.op.nth
   ·rw[k9.o,decide_eq_true Xo,if_pos rfl]at L
    have bM:=aa (show Below wr.heap.size wr ((wr.alloc (.cells #[.int .i64 x.op.id.1,.int .i64 b,.int .i64 x.op.nth,.iface x.t x.v] 210)).alloc (.cells #[.int .i64 x.op.id.1,.int .i64 b,.int .i64 x.op.nth,.iface x.t x.v] 210)).drew from(((aoQ wr.heap.size wr).alloc (aoP _) _).alloc (by simp) _).drew);have HQ:=aa (show ∀j u,(dn x)[j]?=some u->((wr.alloc (.cells #[.int .i64 x.op.id.1,.int .i64 b,.int .i64 x.op.nth,.iface x.t x.v] 210)).alloc (.cells #[.int .i64 x.op.id.1,.int .i64 b,.int .i64 x.op.nth,.iface x.t x.v] 210)).drew.cell? ⟨wr.heap.size+1,j,none⟩=some u by
     have p:=xJ (wr.alloc (.cells #[.int .i64 x.op.id.1,.int .i64 b,.int .i64 x.op.nth,.iface x.t x.v] 210)) (.int .i64 x.op.id.1) (.int .i64 b) (.int .i64 x.op.nth) (.iface x.t x.v) 210;rw[show(wr.alloc (.cells #[.int .i64 x.op.id.1,.int .i64 b,.int .i64 x.op.nth,.iface x.t x.v] 210)).heap.size=wr.heap.size+1 by simp]at p;exact OP (w:=(_:World).drew) p.1 (yO.o▸p.2.1) p.2.2.1 p.2.2.2)
    clear q;go_wp2_with fail
    go_region
    go_wp2_with (first
     |(at_builtin;refine zd dn 4 40 202 210 (.agg #[.int .i64 0,.int .i64 0,.int .i64 0,.nilIface]) (by kernel_rfl) underlying202 rfl (by omega) (fun _=>rfl) rfl (.tmp 26) (.tmp 28) rfl w.heap.size (.slice dp C.length de) C rfl (c5 z.o bM.o) (wr.heap.size+1) 1 x rfl HQ.o (AN x) (by omega) (by unfold maxLen;omega) (by have :=bM.o.size;omega) ?_;intro v' w10 Bh zu HR;have Dk:=aa Bh;have Fx:=aa zu;clear Bh zu HR)
     |fail)
    refine⟨⟨k+1,by omega,by go_num,?_,?_⟩,by simp[intOf];omega⟩
    ·rw[L.o]
     show w10.ownsRow w.heap.size 210 4 v' (C++[x]).length ((C++[x]).flatMap dn);rw[aoW];exact Dk.o
    ·have aU:=B.o.trans (bM.o.mono B.o.size)
     exact aU.grown Fx.o aU.size (fun k E=>(aoT z.o k E).1)
   ·rw[k9.o,decide_eq_false Xo]at L
    clear q;go_wp2_with fail
    go_region
    go_wp2_with fail
    have gQ:Below wr.heap.size wr (wr.alloc (.cells #[.int .i64 x.op.id.1,.int .i64 b,.int .i64 x.op.nth,.iface x.t x.v] 210)).drew:=((aoQ wr.heap.size wr).alloc (aoP _) _).drew;refine⟨⟨k+1,by omega,by go_num,?_,B.o.trans (gQ.mono B.o.size)⟩,by simp[intOf];omega⟩;rw[L.o];rw[if_neg (by decide),apu];exact c5 z.o gQ
  ·have hL:k=l.length:=by omega
   subst hL;rw[aqa]at y;obtain⟨dp,de,rfl,_,_,_⟩:=bp y;have J9:=aa (agG y (List.Nodup.sublist (List.filter_sublist.map _) s.o.2.2.2) (by have :=apK (r2 m) l;omega));have z:=aa y;clear y;have B:=aa r;clear r;go_wp2_with fail
   refine J9.o.mono ?_;rintro e w1 ⟨rfl,M,Q,R,S,U⟩;have aT:=aa (And.intro Q (And.intro R (And.intro S U)));clear Q R S U;go_wp2;go_ret
   obtain⟨Q,R,S,U⟩:=aT.o;exact⟨_,M,rfl,S,Q,R,B.o.grown U B.o.size (fun k E=>(aoT z.o k E).1)⟩
def wu (x:Int):List Value:=[A x]
def qp (B:Nat) (w:World) (v:Value) (l:List Int):Prop:=w.ownsRow B 3 1 v l.length (l.flatMap wu)
theorem agN(l:List Int):∀u∈l.flatMap wu,u.oneCell'=true:=by
 intro u b;obtain⟨n,_,a⟩:=api.1 b;simp[wu]at a;subst a;rfl
theorem Qj(l:List Int):l.flatMap wu=l.map fun x=>A x:=by
 unfold wu;exact List.map_eq_flatMap.symm
theorem qp.qq(h:qp a b n m)(j:0<m.length)(p:m.length<=1000):∃g d,n=.slice (some (H g)) m.length d/\m.length<=d/\d<=maxLen/\a<=g/\g<b.heap.size/\∀i (e:i<m.length),b.cell? (K g i)=some (A m[i]):=by
 obtain⟨c,d,rfl,k,l,o⟩:=bp h;obtain⟨g,rfl⟩:=o 0 j;have f:=aoT h g rfl;refine⟨g,d,rfl,k,l,f.1,f.2,fun i e=> ?_⟩;have :=aqE h i (by omega);rw[this,Qj];simp[e]
theorem Xp(h:qp 0 b (.slice (some (H d)) m.length a) m)(x:m.length<1000000):
  O 50 #[.slice (some (H d)) m.length a] b fun e l=>∃u,e=.returned u/\qp b.heap.size l u m/\J b l:=by
 have g:=(aoQ b.heap.size b).alloc (aoP _) (.cells #[] 3);have r:=aa (show uw (b.alloc (.cells #[] 3)) wu (.slice (some (H d)) m.length a) m by
  have :=Gx (c5 h g) (fun _=>rfl) rfl m.length (aoP _) a (fun _ e=>by cases e);rwa [aqa]at this)
 have s:=aa g;clear h g;go_enter func50,ntmps50;have y:∀(b:World) (f:Option Addr) (n c i j:Nat),(binOp .eql 24 (.slice f n c) (.slice none i j)).run prog b=.ok (.bool f.isNone) b:=fun b f n c i j=>Lib.run_eql_slice_nil b _ _ f n c i j underlying24
 go_wp2_with (at_builtin;go_must (refine Gv wu 1 8 24 3 (A 0) (by kernel_rfl) underlying24 rfl (by omega) (fun _=>rfl) rfl (.tmp 5) (.tmp 6) rfl b.heap.size (.slice (some (V b 0)) 0 0) [] m rfl ?h1 (.slice (some (H d)) m.length a) rfl r.o (agN m) ?ak ?aL ?bW ?_;(case h1=>exact World.ownsRow_made b #[] 0 (aoP _) (aoR _) (by simp));(case ak=>simp;omega);(case aL=>unfold maxLen;simp;omega);(case bW=>simp);intro t z p q;have v:=aa p;have w:=aa q;clear p q))
 go_ret
 refine⟨t,rfl,by unfold qp;simpa using v.o,s.o.grown w.o (by simp) (fun k e=> ?_)⟩;simp[Value.ownBlock]at e;omega
def kG (N:Nat) (a:Nat->Int):List Int:=(List.range N).map a
theorem ug(N:Nat)(a:Nat->Int):(kG N a).length=N:=by simp[kG]
theorem dx.ints{gt early}(c:dx b d h j a e k gt l f early i):qp 0 b (.slice (some (H i.ey)) (kG a l).length a) (kG a l):=by
 have g:=c.heard;have n:=c.hN;have m:(kG a l).flatMap wu=(pK a l).toList:=by
  rw[Qj];simp[kG,pK]
 refine⟨by rw[Qj];simp,.inr ⟨i.ey,a,_,by rw[ug],aoR _,g,by rw[ug];exact aoP _,by unfold maxLen;omega,by simp[pK],?_⟩⟩;rw[m,ug,apc (by simp[pK])]
theorem agO{gt early}(c:dx b a h j d e k gt l f early i):
  O 54 #[Z a] b fun g m=>∃u,g=.returned u/\qp b.heap.size m u (kG d l)/\J b m:=by
 obtain⟨s,t,x,v,dC,w⟩:=c.cells;have n:=aa (Xp c.ints (by rw[ug];have :=c.hN;omega));rw[ug]at n;clear s t v dC w c;go_enter func54,ntmps54;go_wp2_with fail
 refine n.o.mono ?_;rintro g y ⟨u,rfl,p,q⟩;have r:=aa (And.intro p q);clear p q;go_wp2;go_ret
 exact⟨u,rfl,r.o.1,r.o.2⟩
def nS (l:List Int) (a:Nat->Int) (k:Nat):List Int:=l.mapIdx fun i x=>if i<k then max x (a i) else x
theorem zv(l:List Int)(a:Nat->Int)(k:Nat):(nS l a k).length=l.length:=by simp[nS]
theorem HV(l:List Int)(a:Nat->Int)(k i:Nat)(b:i<l.length):(nS l a k)[i]'(by rw[zv];exact b)=if i<k then max l[i] (a i) else l[i]:=by simp[nS]
theorem agP(l:List Int)(a:Nat->Int):nS l a 0=l:=by
 apply aqz
 ·exact zv _ _ _
 ·intro i c b
  rw[HV _ _ _ _ b];simp
theorem agQ(l:List Int)(a:Nat->Int)(k:Nat)(g:k<l.length):(((nS l a k).map fun x=>A x).toArray).setIfInBounds k (A (max l[k] (a k)))=((nS l a (k+1)).map fun x=>A x).toArray:=by
 apply Array.ext_getElem?;intro i;rw[aqj];by_cases b:i<l.length
 ·have c:i<(nS l a k).length:=by rw[zv];exact b
  have d:i<(nS l a (k+1)).length:=by rw[zv];exact b
  by_cases f:k=i
  ·subst f
   simp[c,d,HV _ _ _ _ b]
  ·rw[if_neg f]
   have e:(i<k+1)=(i<k):=by apply propext;omega
   simp[c,d,HV _ _ _ _ b,e]
 ·have c:¬i<(nS l a k).length:=by rw[zv];exact b
  have d:¬i<(nS l a (k+1)).length:=by rw[zv];exact b
  have f:k≠i:=by omega
  simp[f,c,d]
theorem dx.Ql{r gt early}(c:dx b a h j d e k gt l f early i){p:Int×Nat}(v:p∈i.kV)(P:m.length=d)(s:aP (fun g=>g=p.2) b r)(Q:r.heap[p.2]?=some (.cells (m.map fun x=>A x).toArray 3 (0,0))):
  dx r a h j d e k gt l f early {i with eb:=fun o=>if o=p.2 then m else i.eb o}:=by
 obtain⟨⟨_,y⟩,R,S,U⟩:=c.zq p v;have q:∀g,h g->g≠p.2->r.heap[g]?=b.heap[g]?:=fun g hF W=>s.other g (c.lt g hF) W
 have z:∀g,j g->r.heap[g]?=b.heap[g]?:=fun g B=>s.other g (c.cJ g B) fun n=>c.eT g B (n▸S)
 obtain⟨t,u,C⟩:=c.emap;obtain⟨X,Y,D⟩:=c.Df;have E:∀(o:Nat) (t:Array MapEntry) (u:Nat),b.heap[o]?=some (.map t u)->o≠p.2:=fun o t u F n=>by rw[n,y]at F;cases F
 have N4:a≠p.2:=fun n=>by
  have I:=c.blk;rw[n]at I;exact absurd (bz I y) (by decide)
 refine⟨by rw[q _ c.cd N4];exact c.blk,by rw[q _ c.fr (ao5 R)];exact c.heard,c.jM.gB s.size (fun g hF=>q g (c.qN g hF) (fun n=>U (n▸hF))) z,c.cnt,c.kd,⟨t,u,C.gE (q _ c.oZ (E _ _ _ C.blk))⟩,fun p v=>(c.Bc p v).gU z (fun _ x=>x),⟨X,Y,D.gE (q _ c.vg (E _ _ _ D.blk))⟩,fun L sE=> ?_,c.hc,c.hN,c.cd,c.fr,c.oZ,c.vg,c.qN,c.pL,c.Bd,c.Be,c.Dg,c.Dh,fun g hF=>aoV (c.lt g hF) s.size,c.eT⟩;obtain⟨⟨ak,aL⟩,M,w,N⟩:=c.zq L sE;by_cases n:L.2=p.2
 ·refine⟨?_,M,w,N⟩
  simp only[n,if_true];exact⟨P,Q⟩
 ·refine⟨?_,M,w,N⟩
  simp only[n,if_false];exact⟨ak,by rw[q _ w n];exact aL⟩
theorem agR{c gt early gk}(m:dx b e h j a r c gt q f early i)(n:Int)(Q:bq n i.kV=some d)(B:q9 b gk k a l)(C:j gk):
  O 274 #[Z e,A n,.slice (some (H gk)) a k] b fun p R=>(∃u,p=.returned u)/\dx R e h j a r c gt q f early {i with eb:=fun t=>if t=d then nS (i.eb d) l a else i.eb t}/\aP (fun g=>g=d) b R/\h d:=by
 obtain⟨bc,a6,bd,bV,dC,im⟩:=m.cells;clear bc a6 bd bV dC;have Bf:=m.hN;have A5:=B.HT;have Xn:=B.HU;have D:=fQ Q;obtain⟨⟨E,F⟩,S,I,U⟩:=m.zq _ D;simp only at E F S I U;obtain⟨es,aR,W⟩:=m.Df;have tg:(Instr.lookup 107 (.map (some i.jb)) (A n) false).run prog b=.ok (.slice (some (H d)) a a) b:=by
  have :=yy WV W underlying107 (show(zeroValue 24).run prog b=.ok (.slice none 0 0) b by kernel_rfl) n false;rw[Q]at this;exact this
 have v:=aa (And.intro m (And.intro B (And.intro C (And.intro E (And.intro F D)))));clear m B F D W S U;have X:=aa I;clear I;have kp:=aa (show gk≠d from fun p=>v.o.1.eT _ C (p▸X.o));clear C;obtain⟨u9,Y⟩:∃u9,u9=i.eb d:=⟨_,rfl⟩;rw[<-Y]at v E;go_enter func274,ntmps274;go_wp2_with fail
 go_loopw [17] (fun s wr=>∃g,g<=a/\s=A (g:Nat)/\wr.heap[d]?=some (.cells ((nS u9 l g).map fun x=>A x).toArray 3 (0,0))/\aP (fun g=>g=d) b wr) (fun s _=>a-(intOf s).toNat)
 case atStart=>exact⟨0,aoR _,rfl,by rw[agP];exact v.o.2.2.2.2.1,aP.cQ (aoQ _ _)⟩
 case round=>
  obtain⟨g,eh,rfl,w,z⟩:=hrel;by_cases aE:g<a
  ·have Bj:=z.cell kp.o (v.o.2.1.cells g aE)
   have h5:(0:Int)<=(g:Int):=ao0 _;have c3:(g:Int)<(a:Int):=by omega
   have cF:(g:Int)<(k:Int):=by omega
   have L:g<u9.length:=by omega
   have gc:wr.cell? (K d g)=some (A u9[g]):=by
    have M:g<(nS u9 l g).length:=by rw[zv];exact L
    simp[World.cell?,w,M,HV _ _ _ _ L]
   have lq:=cS w g;have N:=aa (agQ u9 l g L);obtain⟨y,az⟩:∃y,y=u9[g]:=⟨_,rfl⟩;rw[<-az]at gc N;clear az;have P:=aa (And.intro w z);clear w z;have anp:=aM P.o.1;obtain⟨Xr,Xs⟩:∃Xr,Xr=max y (l g):=⟨_,rfl⟩;rw[<-Xs]at N;go_wp2_with fail
   rw[<-Xs];refine⟨⟨g+1,by omega,by go_num,?_,?_⟩,by simp[intOf];omega⟩
   ·rw[<-N.o]
    exact setRow P.o.1
   ·exact P.o.2.trans (aP.lf _ rfl)
  ·have hL:g=a:=by omega
   have aT:=aa (And.intro w (And.intro z hL));clear w z hL;go_wp2_with fail
   go_end0
   obtain⟨M,h2,rfl⟩:=aT.o;refine⟨⟨_,rfl⟩,?_,h2,X.o⟩;rw[<-Y];exact v.o.1.Ql v.o.2.2.2.2.2 (by rw[zv];exact v.o.2.2.2.1) h2 M
def Xt:Value->Nat
 |.slice _ n _=>n
 |_=>0
def FA (B:Nat) (w:World) (v:Value) (l:List PId):Prop:=w.ownsRow B 371 2 v l.length (l.flatMap lL)
def ra (c:Nat) (a:Int) (n:Nat):List PId:=(List.range n).map fun(j:Nat)=>((c:Int),a+1+(j:Int))
def kg (a b:Nat->Int) (c:Nat):List PId:=(List.range c).flatMap fun(i:Nat)=>ra i (a i) (b i-a i).toNat
theorem Xu(c:Nat)(f:Int)(n:Nat):ra c f (n+1)=ra c f n++[((c:Int),f+1+(n:Int))]:=by
 unfold ra;rw[apz,ao8];rfl
theorem Xv(c:Nat)(f:Int)(n:Nat):(ra c f n).length=n:=by simp[ra]
theorem LD(a b:Nat->Int)(c:Nat):kg a b (c+1)=kg a b c++ra c (a c) (b c-a c).toNat:=by
 unfold kg;rw[apz,apt];simp
theorem Qn{a b:Nat->Int}{N:Nat}(h:∀i,i<N->0<=a i/\b i<=60):∀c,c<=N->(kg a b c).length<=c*60
 |0,_=>by simp[kg]
 |c+1,d=>by
  have e:=Qn h c (by omega);have f:=h c (by omega);rw[LD,aoW,Xv,apV];omega
theorem agS{gt early gk}(p:dx b e h j a k r gt q f early i)(x:q9 b gk d a l)(P:∀n,n<a->0<=l n/\q n<=60)(Q:∀n,n<a->l n<=60):
  O 278 #[Z e,.slice (some (H gk)) a d] b fun t R=>∃v,t=.returned v/\FA b.heap.size R v (kg l q a)/\J b R:=by
 have Bf:=p.hN;obtain⟨bc,a6,bd,bV,dC,im⟩:=p.cells;clear bc a6 bV dC im;have A5:=x.HT;have Xn:=x.HU;have y:=aa (And.intro p (And.intro x (And.intro P Q)));clear p x P Q;go_enter func278,ntmps278;go_wp2_with fail
 go_loopw [5,14] (fun v n wr=>∃c,c<=a/\n=A (c:Nat)/\FA b.heap.size wr v (kg l q c)/\J b wr) (fun _ n _=>a-(intOf n).toNat)
 case atStart=>exact⟨0,aoR _,rfl,(show FA b.heap.size b (.slice none 0 0) [] from ao9 _ _ _ _),aoQ _ _⟩
 case round=>
  obtain⟨c,eh,rfl,D,z⟩:=hrel;by_cases E:c<a
  ·have q7:=(y.o.1.af z).Fm E
   have Bj:=(y.o.2.1.af z).cells c E;obtain⟨sx,Qo⟩:=y.o.2.2.1 c E;have hn6:=y.o.2.2.2 c E;have h5:(0:Int)<=(c:Int):=ao0 _;have c3:(c:Int)<(a:Int):=by omega
   have cF:(c:Int)<(d:Int):=by omega
   have PY:IntKind.i64.wrap (l c+1)=l c+1:=apO _ (by omega);have L:=aa (And.intro D z);clear D z;obtain⟨S,rZ⟩:∃S,S=wr:=⟨_,rfl⟩;subst rZ;have U:=aa (Qn (fun n W=>⟨(y.o.2.2.1 n W).1,(y.o.2.2.1 n W).2⟩) c eh);have M:=aa (LD l q c);have fl:(kg l q c).length<=240:=by have :=U.o;omega
   obtain⟨B,X⟩:∃B,B=kg l q c:=⟨_,rfl⟩;rw[<-X]at fl L M;clear X U;obtain⟨m,F⟩:∃m,m=(q c-l c).toNat:=⟨_,rfl⟩;rw[<-F]at M;go_wp2_with fail
   go_loopw [5,8] (fun v s Y=>∃g,g<=m/\s=A (l c+1+(g:Nat))/\FA b.heap.size Y v (B++ra c (l c) g)/\J b Y) (fun v _ _=>1000-Xt v)
   case atStart=>exact⟨0,aoR _,by simp,by simpa[ra]using L.o.1,L.o.2⟩
   case round=>
    obtain⟨g,Qp,rfl,I,Bl⟩:=hrel;obtain⟨u,C⟩:∃u,u=B++ra c (l c) g:=⟨_,rfl⟩;have HAL:=aa (show u.length=B.length+g by rw[C,aoW,Xv]);have iE:=aa (show B++ra c (l c) (g+1)=u++[((c:Int),l c+1+(g:Int))] by rw[Xu,C,apf]);have HFN:=aa (fun(t:g=m)=>show u=kg l q (c+1) by rw[M.o,C,t]);rw[<-C]at I;clear C;have ze:m<=60:=by omega
    have nx:u.length<=400:=by have :=HAL.o;omega
    obtain⟨dp,de,rfl,sD,ve,td⟩:=bp I;clear td;unfold maxLen at ve;have w:=aa (And.intro I Bl);clear I Bl;by_cases ar:g<m
    ·have hle:l c+1+(g:Int)<=q c:=by omega
     have bG:=aa F;clear F;have N:=aa ((aoQ wr.heap.size wr).alloc (aoP _) (.cells #[A c,A (l c+1+(g:Int))] 371));have HQ:=aa (JQ (x1:=(c:Int)) (x2:=l c+1+(g:Int)) (bh (bL wr (.cells #[A c,A (l c+1+(g:Int))] 371))).1 (bh (bL wr (.cells #[A c,A (l c+1+(g:Int))] 371))).2);have eD:IntKind.i64.wrap (l c+1+(g:Int)+1)=l c+1+(g:Int)+1:=apO _ (by omega);go_wp2_with (first
      |(at_builtin;refine zd lL 2 16 378 371 (.agg #[A 0,A 0]) (by kernel_rfl) underlying378 rfl (by omega) (fun _=>rfl) rfl (.tmp 29) (.tmp 33) rfl b.heap.size (.slice dp u.length de) u rfl (c5 w.o.1 N.o) wr.heap.size 1 ((c:Int),l c+1+(g:Int)) rfl HQ.o JP (by omega) (by unfold maxLen;omega) (by have :=N.o.size;have :=w.o.2.size;omega) ?_;intro v' w10 Bh zu HR;have Dk:=aa Bh;have Fx:=aa zu;clear Bh zu HR)
      |fail)
     go_roundw
     case rel=>
      refine⟨g+1,by omega,by congr 1;omega,?_,?_⟩
      ·rw[iE.o]
       show w10.ownsRow b.heap.size 371 2 v' (u++[((c:Int),l c+1+(g:Int))]).length ((u++[((c:Int),l c+1+(g:Int))]).flatMap lL);rw[aoW];exact Dk.o
      ·have aU:=w.o.2.trans (N.o.mono w.o.2.size)
       exact aU.grown Fx.o aU.size (fun c x=>(aoT w.o.1 c x).1)
     case measure=>
      obtain⟨ku,b2,rfl,_,_,_⟩:=bp Dk.o;simp only[Xt];omega
    ·have lu:¬l c+1+(g:Int)<=q c:=by omega
     have vk:=aa (show g=m by omega);clear F ar;go_wp2_with fail
     refine⟨⟨c+1,by omega,by go_num,?_,w.o.2⟩,by simp[intOf];omega⟩;have :=w.o.1;rw[<-HFN.o vk.o];exact this
  ·have hL:c=a:=by omega
   have aT:=aa (And.intro D (And.intro z hL));clear D z hL;go_wp2_with fail
   go_ret
   obtain⟨h1,h2,rfl⟩:=aT.o;exact⟨_,rfl,h1,h2⟩
def Dm (w:World) (g a:Nat) (l:List PId):Prop:=∀k (b:k<l.length),w.cell? (K g (a+k*2))=some (A l[k].1)/\w.cell? (K g (a+k*2+1))=some (A l[k].2)
theorem Dm.af{w g off l}{w':World}(h:Dm w g off l)(a:J w w'):Dm w' g off l:=fun k b=>⟨Go.Proofs.YtnkpogjiiohapaaGreatDoor.af a (h k b).1,Go.Proofs.YtnkpogjiiohapaaGreatDoor.af a (h k b).2⟩
theorem agT{l}(h:Dm b e a l)(x:PId)(L:l.length<=1000)(M:a<=100000)(N:l.length<=d)(P:d<=100000):
  O 284 #[.slice (some (K e a)) l.length d,cX x] b fun c C=>∃i:Int,c=.returned (A i)/\decide (0<=i)=decide (x∈l)/\J b C:=by
 unfold cX;have D:=aa h;clear h;have E:=aa ((aoQ b.heap.size b).alloc (aoP _) (.cells #[A x.1,A x.2] 371));obtain⟨f,g⟩:=bh (bL b (.cells #[A x.1,A x.2] 371));have u:=aa (And.intro f g);clear f g;go_enter func284,ntmps284;go_wp2_with fail
 go_loopw [8] (fun i wr=>∃k,k<=l.length/\i=A (k:Nat)/\x∉l.take k/\J b wr/\wr.cell? (V b 0)=some (A x.1)/\wr.cell? (V b 1)=some (A x.2)) (fun i _=>l.length-(intOf i).toNat)
 case atStart=>exact⟨0,aoR _,rfl,by simp,E.o,u.o.1,u.o.2⟩
 case round=>
  obtain⟨k,Q,rfl,p,j,f,g⟩:=hrel;by_cases q:k<l.length
  ·obtain⟨v,F⟩:=D.o.af j k q
   have R:(0:Int)<=(k:Int):=ao0 _;have S:(k:Int)<(l.length:Int):=by omega
   have w:=aa (aph q);obtain⟨y,r⟩:∃y,y=l[k]:=⟨_,rfl⟩;rw[<-r]at v F w;have I:=aa (show y∈l from r▸aoY q);have s:=aa p;clear p r;have m:=aa j;clear j;by_cases n:x=y
   ·subst n
    go_wp2_with fail
    go_region
    go_wp2_with fail
    go_ret
    exact⟨k,rfl,by rw[decide_eq_true I.o,decide_eq_true (ao0 _)],m.o.drew⟩
   ·have z:=aa (show x∉l.take (k+1) by
     rw[w.o,aoZ];rintro(h|h)
     ·exact s.o h
     ·exact n (ao2.1 h))
    by_cases t:x.1=y.1
    ·have B:¬x.2=y.2:=fun B=>n (Prod.ext t B)
     rw[<-t]at v;clear t n;go_wp2_with fail
     go_region
     go_wp2_with fail
     exact⟨⟨k+1,by omega,by go_num,z.o,m.o.drew,f,g⟩,by simp[intOf];omega⟩
    ·clear n
     go_wp2_with fail
     go_region
     go_wp2_with fail
     exact⟨⟨k+1,by omega,by go_num,z.o,m.o.drew,f,g⟩,by simp[intOf];omega⟩
  ·have s:=aa p;clear p
   have m:=aa j;clear j;go_wp2_with fail
   go_ret
   refine⟨-1,rfl,?_,m.o⟩;have :=s.o;rw[apc (by omega)]at this;rw[decide_eq_false this]
   decide
theorem agU{l}(h:Dm b e a l)(f g:Int)(q:l.length<=1000)(r:a<=100000)(s:l.length<=d)(t:d<=100000):
  O 279 #[.slice (some (K e a)) l.length d,.agg #[A f,A g]] b fun c u=>c=.returned (.bool (decide ((f,g)∈l)))/\J b u:=by
 have j:=aa ((aoQ b.heap.size b).alloc (aoP _) (.cells #[A f,A g] 371));have k:=aa (agT (h.af j.o) (f,g) q r s t);clear h;unfold cX at k;go_enter func279,ntmps279;go_wp2_with fail
 refine k.o.mono ?_;rintro c v ⟨i,rfl,m,n⟩;have p:=aa (And.intro m n);clear m n;go_wp2;go_ret
 rw[<-p.o.1];exact⟨rfl,j.o.trans (p.o.2.mono j.o.size)⟩
end
section
open Go.RowKit Tryz
attribute [local go_sem] Oper.semAt_some
def ti (S:Nat->Prop) (W a:World):Prop:=∀k,S k->a.heap[k]?=W.heap[k]?
theorem ti.trans{S a B C}(h:ti S a B)(k:ti S B C):ti S a C:=fun i b=>(k i b).trans (h i b)
theorem ti.cell{S a B}(h:ti S a B){g i:Nat}(c:S g){v:Value}(b:a.cell? (K g i)=some v):B.cell? (K g i)=some v:=by
 unfold World.cell? at b⊢;simp only at b⊢;rw[h g c];exact b
def chunks (a:Nat):Nat:=(a+7)/8
def zw (a m:Nat):Nat:=min 8 (a-m)
def FB (g a m:Nat):Value:=.slice (some (K g (m*2))) (zw a m) (zw a m)
abbrev zx (a:Nat):={k:Nat//k<chunks a}
theorem agV(F:Fence)(n:Nat)(eR:F.fn 283)(oe:F.round=none)(hn:1<=n)(l y z g c B:Nat)(hlen:c<=1000)(hcap:c<=B)(HW:B<=maxLen)(a:Option Addr)(au:0<c->a=some (H g))(S:Nat->Prop)(bY:S y)(M:S z)(b N:List (zx c)->World->Prop)(Cx:∀d x W,b d W->d.length<chunks c->YieldAt F (n-1) prog l #[FB g c (8*x.1)] W fun e q=>
   (e=.returned (.bool true)/\b (d++[x]) q/\ti S W q)\/(e=.returned (.bool false)/\N (d++[x]) q))(W:World)(uG:AbidesFrom W.heap.size b)(Qr:W.cell? (H y)=some (.slice a c B))(Qs:W.cell? (H z)=some (A 8))(h0:b [] W):
  CallsIn F n prog 283 #[.func (.yield l) #[] #[],Z y,Z z] W fun e q=>(∃v,e=.returned v)/\
   ((∃P:List (zx c),P.map (·.1)=List.range (chunks c)/\b P q)\/(∃d:List (zx c),(∃k,k<=chunks c/\d.map (·.1)=List.range k)/\N d q)):=by
 refine callsIn_of_wp func283 rfl eR ?_ oe;simp only[ntmps283,ap8,apd,apv,Nat.reduceAdd,Nat.reduceSub,aqQ,aqR,aqS,aqT,apN,apC]
 gi_wp2
 gi_loopw [4] (fun i wr=>∃(m k:Nat) (d:List (zx c)),Hq (m=8*k)/\k<=chunks c/\i=A (m:Int)/\d.map (·.1)=List.range k/\b d wr/\ti S W wr)
  (fun i _=>c+8-(intOf i).toNat)
 case atStart=>exact⟨0,0,[],aa rfl,aoR _,rfl,rfl,h0,fun _ _=>rfl⟩
 case round=>
  obtain⟨m,k,d,u,hk,rfl,j,C,w⟩:=hrel;have Q:=w.cell bY Qr;have D:=w.cell M Qs;have fl:d.length=k:=by have :=congrArg List.length j;simpa using this
  by_cases s:k<chunks c
  ·have R:b d wr.drew:=uG d wr _ none C ⟨rfl,rfl,rfl,aoP _,fun _ _ _=>rfl⟩ (fun r e=>by cases e)
   obtain⟨fn,tmps,assign,body,E,U⟩:=Cx d ⟨k,s⟩ wr.drew R (by omega);have ze:m<c:=by have :=u.o;unfold chunks at s;omega
   obtain rfl:=au (by omega);rw[<-u.o]at E;have I:=E;unfold FB at I;obtain⟨p,t⟩:∃p,p=zw c m:=⟨_,rfl⟩;rw[<-t]at I;have anq:p<=8:=by rw[t];unfold zw;omega
   have anr:m+p<=c:=by rw[t];unfold zw;omega
   have ng:(0:Int)<=(m:Int):=ao0 _;have rI:(m:Int)<(c:Int):=by omega
   have ans:min (8:Int) ((c-m:Nat):Int)=(p:Int):=by rw[t];unfold zw;omega
   have fA:((m:Int)+(p:Int)).toNat-m=p:=by omega
   clear E;have HH:=aa t;clear t
   gi_wp2
   gi_region
   all_goals gi_wp2
   all_goals refine U.mono ?_
   all_goals clear U R I
   all_goals
    rintro e jf (⟨rfl,X,L⟩|⟨rfl,Y⟩)
    ·replace D:=L.cell M (show wr.drew.cell? _=_ from D)
     have f:=aa (And.intro X (And.intro L (And.intro w j)));clear X L w j Q
     gi_wp2
     go_roundw
     case rel=>exact⟨m+8,k+1,d++[⟨k,s⟩],aa (by have :=u.o;omega),s,by go_num,by rw[ao8,f.o.2.2.2,apz];rfl,f.o.1,f.o.2.2.1.trans f.o.2.1⟩
     case measure=>simp[intOf];omega
    ·have f:=aa (And.intro Y j)
     clear Y j Q D
     gi_wp2
     refine bodyPost_ret (results_none rfl _ _ _) rfl ?_;exact⟨⟨_,rfl⟩,.inr ⟨_,⟨k+1,s,by rw[ao8,f.o.2,apz];rfl⟩,f.o.1⟩⟩
  ·have kq:¬(m:Int)<(c:Int):=by have :=u.o;unfold chunks at s;omega
   have E2:k=chunks c:=by omega
   have f:=aa (And.intro j (And.intro C E2));clear j C E2
   gi_wp2
   go_end0
   obtain⟨h1,h2,ak⟩:=f.o;exact⟨⟨_,rfl⟩,.inl ⟨d,h1.trans (congrArg List.range ak),h2⟩⟩
theorem agW(F:Fence)(n:Nat)(d:F.fn 277)(f:F.round=none)(a:Option Addr)(b c:Nat)(w:World):
  CallsIn F n prog 277 #[.slice a b c,A 8] w fun e g=>e=.returned (.func (.func 283) #[] #[Z w.heap.size,Z (w.heap.size+1)])/\g=(w.alloc (.cells #[.slice a b c] 378)).alloc (.cells #[A 8] 3):=by
 refine callsIn_of_wp func277 rfl d ?_ f;simp only[ntmps277,ap8,apd,apv,Nat.reduceAdd,Nat.reduceSub,aqQ,aqR,aqS,aqT,apN,apC]
 gi_wp2
 go_ret
 exact⟨rfl,rfl⟩
theorem agX(F:Fence)(n:Nat)(i:F.fn 283)(j:F.round=none)(m:1<=n)(d e g c f:Nat)(o:c<=1000)(p:c<=f)(q:f<=maxLen)(a:Option Addr)(r:0<c->a=some (H g))(S:Nat->Prop)(s:S d)(t:S e)(w:World)(u:w.cell? (H d)=some (.slice a c f))(v:w.cell? (H e)=some (A 8)):
  SeqStopsK F n prog 283 #[Z d,Z e] (fun x:zx c=> #[FB g c (8*x.1)]) (ti S) (fun y=>y.map (·.1)=List.range (chunks c)) (fun z=>∃k,k<=chunks c/\z.map (·.1)=List.range k) (chunks c) w:=fun l b B W h C _ D E=>
 agV F n i j m l d e g c f o p q a r S s t b B D W C (Go.Proofs.YtnkpogjiiohapaaGreatDoor.af h u) (Go.Proofs.YtnkpogjiiohapaaGreatDoor.af h v) E
end
end Go.Proofs.YtnkpogjiiohapaaGreatDoor
