/- Our own text. -/
import Derived.Test.YtnkpogjiiohapaaGreatDoorA20
import Derived.Test.YtnkpogjiiohapaaGreatDoorA16
set_option linter.unusedSimpArgs false
set_option linter.unusedVariables false
set_option maxRecDepth 1000000
set_option maxHeartbeats 4000000
namespace Go.Proofs.YtnkpogjiiohapaaGreatDoor
section
open Go.RowKit Tryz
attribute [local go_sem ↓] Go.wp_at_zero Go.wp_at_succ
variable {a b:Nat}
structure ahb (w:World) (I:Nat->Prop) (g off:Nat) (xs:List ar):Prop where
 cells:∀k (hk:k<xs.length),w.cell? (K g (off+k*4))=some (A xs[k].op.id.1)/\w.cell? (K g (off+k*4+1))=some (A xs[k].op.id.2)/\w.cell? (K g (off+k*4+2))=some (A xs[k].op.nth)/\w.cell? (K g (off+k*4+3))=some (.iface xs[k].t xs[k].v)
 QZ:I g
 off:off<=100000
def opsV (w:World) (I:Nat->Prop) (v:Value) (b:List ar):Prop:=∃a c,v=.slice a b.length c/\b.length<=c/\c<=9223372036854775807/\(0<b.length->∃g d,a=some (K g d)/\ahb w I g d b)/\∀x∈b,pX w I (.iface x.t x.v) x.op.chg
theorem opsV.ft{w I v f}{d:World}{e:Nat->Prop}(h:opsV w I v f)(j:∀k,I k->d.heap[k]?=w.heap[k]?)(l:∀k,I k->e k):opsV d e v f:=by
 obtain⟨a,m,n,o,p,q,r⟩:=h;refine⟨a,m,n,o,p,fun s=> ?_,fun x t=>(r x t).ft j l⟩;obtain⟨g,u,y,b⟩:=q s;have c:∀i,d.cell? (K g i)=w.cell? (K g i):=fun i=>by simp[World.cell?,j g b.QZ]
 refine⟨g,u,y,⟨fun k z=> ?_,l _ b.QZ,b.off⟩⟩;rw[c,c,c,c];exact b.cells k z
def iB (has:Nat->Int) (m:List (PId×ar)) (xs:List ar):List (PId×ar):=xs.foldl (fun m x=>if has x.op.id.2.toNat<x.op.nth then cE (en x) x m else m) m
theorem ahc{has:Nat->Int}{m:List (PId×ar)}{xs:List ar}(b:a<xs.length):iB has m (xs.take (a+1))=if has xs[a].op.id.2.toNat<xs[a].op.nth then cE (en xs[a]) xs[a] (iB has m (xs.take a)) else iB has m (xs.take a):=by
 rw[aqp b];unfold iB;rw[ara];rfl
theorem XR{a:Nat->Int}:∀{xs:List ar} {m:List (PId×ar)} {p:PId×ar},p∈iB a m xs->p∈m\/∃x∈xs,p=(en x,x)
 |[],m,p,h=>.inl h
 |x::xs,m,p,h=>by
  have d:p∈iB a (if a x.op.id.2.toNat<x.op.nth then cE (en x) x m else m) xs:=h;rcases XR d with b|⟨y,e,f⟩
  ·split at b
   ·rcases ox b with c|c
    ·exact .inl c
    exact .inr ⟨x,aqf,c⟩
   exact .inl b
  exact .inr ⟨y,aqh _ e,f⟩
theorem XS{a:Nat->Int}:∀{xs:List ar} {m:List (PId×ar)},(m.map (·.1)).Nodup->((iB a m xs).map (·.1)).Nodup
 |[],m,h=>h
 |x::xs,m,h=>by
  refine XS (xs:=xs) (m:=if a x.op.id.2.toNat<x.op.nth then cE (en x) x m else m) ?_;split
  ·exact DE h
  exact h
theorem Q0(c a b:Int)(d:TypeId)(f:Value)(w:World):
  O 280 #[.agg #[A c,A a,A b,.iface d f]] w fun e g=>e=.returned (.agg #[A a,A b])/\J w g:=by
 have h:=aa (((apY w.heap.size w).alloc (apX _) (.cells #[A c,A a,A b,.iface d f] 210)).alloc (by simp) (.cells #[A a,A b] 371));go_enter func280,ntmps280;go_wp2_with fail
 refine bodyPost_ret (v:=.agg #[A a,A b]) (by simp[results,results280,go_sem]) rfl ?_;exact⟨rfl,h.o⟩
theorem XT{w:World}{e:TypeId}{size:Nat}{v:Value}{c:List Value}(h:w.ownsRow b e size v a c):w.ownsRow 0 e size v a c:=by
 refine⟨h.1,?_⟩;rcases h.2 with d|⟨g,f,i,rfl,j,rest⟩
 ·exact .inl d
 exact .inr ⟨g,f,i,rfl,apZ _,rest⟩
theorem ahd{m:List (PId×ar)}{c:Int}{n:Int}{x:ar}(h:x∈il m c n a):∃p∈m,p.2=x:=by
 obtain⟨j,b,rfl⟩:=aqv.1 h;exact⟨_,fL (run_get m c a n j b),rfl⟩
theorem Ml{m:List (PId×ar)}{has:Nat->Int}{x:ar}(h:x∈iL m has a):∃p∈m,p.2=x:=by
 unfold iL at h;obtain⟨i,_,b⟩:=aqq.1 h;exact ahd b
theorem ahe{w F I sp c gt has P early q v}(h:dA w b F I a sp c gt has P early q)(d:List ar)(aF:opsV w I v d)(C:∀x∈d,0<=x.op.id.2/\x.op.id.2<a)(cO:((iB has early d).map (·.1)).Nodup)(sd:∀p∈iB has early d,p.1.2<=60)(iJ:∀i,i<a->0<=has i/\has i<=1000)(qE:((iL (iB has early d) has a++P).map fun o=>o.op.id).Nodup)(hlen:P.length+(iL (iB has early d) has a).length<=300)(zE:∀x∈iL (iB has early d) has a,0<=x.op.id.2/\x.op.id.2<a):
  O 309 #[Z b,v] w fun e w'=>(∃r,e=.returned r)/\∃U X iM,dA w' b U I a sp c (nB gt (iL (iB has early d) has a)) (hasAll has (iL (iB has early d) has a)) (iZ P (iL (iB has early d) has a)) iM X/\vH (iB has early d) (qD (iB has early d) has a) iM/\FZ q X/\c6 F U w w':=by
 obtain⟨dr,dh,rfl,tW,vE,z,jQ⟩:=aF;have BL:=h.hN;have u:=aa h;clear h;have dT:=aa (And.intro z (And.intro jQ C));clear z jQ C;have Y:=aa (And.intro cO (And.intro sd (And.intro iJ (And.intro qE (And.intro hlen zE)))));clear cO sd iJ qE hlen zE;go_enter func309,ntmps309;go_wp2_with fail
 go_loopw [8] (fun i wr=>∃k,k<=d.length/\i=A (k:Nat)/\dA wr b F I a sp c gt has P (iB has early (d.take k)) q/\aO (fun k=>k=q.ik) w wr) (fun i _=>d.length-(intOf i).toNat)
 case atStart=>exact⟨0,apZ _,rfl,u.o,aO.cJ (apY _ _)⟩
 case round=>
  obtain⟨k,dZ,rfl,s,f⟩:=hrel;by_cases aE:k<d.length
  ·obtain⟨g,off,rfl,z⟩:=dT.o.1 (by omega);obtain⟨cC,Q,aw,cS⟩:=z.cells k aE;have tp:=z.QZ;have c9:=u.o.cx _ tp;have Mm:g≠q.ik:=fun e=>u.o.eC _ tp (e▸u.o.pf)
   replace cC:=f.cell Mm cC;replace Q:=f.cell Mm Q;replace aw:=f.cell Mm aw;replace cS:=f.cell Mm cS;obtain⟨jY,eN⟩:=dT.o.2.2 d[k] (ap6 aE);have qg:=aa (dT.o.2.1 d[k] (ap6 aE));have B:=aa (ahc (has:=has) (m:=early) aE);have aor:=z.off;have jR:(0:Int)<=(k:Int):=aqc _;have df:(k:Int)<(d.length:Int):=by omega
   obtain⟨x,uz⟩:∃x,x=d[k]:=⟨_,rfl⟩;rw[<-uz]at cC Q aw cS jY eN qg B;clear z uz;obtain⟨l,C⟩:∃l:Nat,x.op.id.2=(l:Int):=⟨x.op.id.2.toNat,by omega⟩;have Iu:l<a:=by omega
   have XA:(0:Int)<=(l:Int):=aqc _;have L0:(l:Int)<(a:Int):=by omega
   obtain⟨bf,a6,bc,bZ,ee,jC⟩:=s.cells;clear bf a6 bZ jC;have sc:=s.F0 Iu;have lB:=aa C;have F9:=aa (show en x=((l:Int),x.op.nth) by unfold en;rw[C]);rw[show x.op.id.2.toNat=l by omega]at B;rw[C]at Q;obtain⟨Hn,Bg⟩:∃Hn,Hn=iB has early (d.take k):=⟨_,rfl⟩;rw[<-Bg]at B s;clear Bg;have n:=aa (And.intro s f);have pJ:=s.lt _ s.b3;have BP:=s.lt _ s.fA;have zk:=ap3 c9 f.size;obtain⟨es,aT,gD⟩:=s.emap;have bL:=aa ((apY wr.heap.size wr).alloc (apX _) (.cells #[A x.op.id.1,A l,A x.op.nth,.iface x.t x.v] 210));have aP:=aa (bI wr (.cells #[A x.op.id.1,A l,A x.op.nth,.iface x.t x.v] 210));have D1:=aa (fun W (ab:J wr W)=>xJ Mc (gD.ae ab) underlying106 ((l:Int),x.op.nth) x);clear gD s f;by_cases de:has l<x.op.nth
   ·rw[if_pos de]at B;go_wp2_with fail
    go_quiet (fail)
    go_wp2_with fail
    have tR:=aa (show J wr ((wr.alloc (.cells #[A x.op.id.1,A l,A x.op.nth,.iface x.t x.v] 210)).drewN nq) from below_drewN bL.o _);have Ga:=aa (show((wr.alloc (.cells #[A x.op.id.1,A l,A x.op.nth,.iface x.t x.v] 210)).drewN nq).heap[wr.heap.size]?=some (.cells #[A x.op.id.1,A l,A x.op.nth,.iface x.t x.v] 210 (0,0)) from aP.o);obtain⟨hf,XU⟩:∃hf,(wr.alloc (.cells #[A x.op.id.1,A l,A x.op.nth,.iface x.t x.v] 210)).drewN nq=hf:=⟨_,rfl⟩;rw[XU]at tR Ga⊢;clear XU;obtain⟨e7,gm,k3,np⟩:=FH Ga.o;have d4:=ae tR.o ee;clear ee bc sc cC Q aw cS;go_region_with (first
     |(go_at_call 280;refine(Q0 _ _ _ _ _ _).mono ?_;rintro e w1 ⟨rfl,D⟩;have e0:J hf w1:=⟨D.os,D.tape,D.output,D.size,D.block⟩;have R:=aa (tR.o.trans (e0.mono tR.o.size));have XO:=ae e0 d4;obtain⟨IA,p1',p2',p3'⟩:=FH (bj Ga.o e0);obtain⟨eW,fp,tc,eB⟩:=D1.o w1 R.o;have Q1:=aa eB;simp only[c0,QD,lB.o]at tc;clear D e0 eB))
    all_goals(try go_wp2_with fail)
    all_goals
     refine⟨⟨k+1,by omega,by go_num,?_,?_⟩,by simp[intOf];omega⟩
     ·rw[B.o,F9.o];refine(n.o.1.ae R.o).XJ (aO.put _ rfl) ⟨_,_,Q1.o⟩ fun p S=> ?_
      rcases ox S with S|rfl
      ·exact(n.o.1.ae R.o).BH p S
      exact qg.o.ft (fun j E=>(R.o.block j (n.o.1.cx j E)).trans (n.o.2.other j (u.o.cx j E) fun e=>u.o.eC j E (e▸u.o.pf))) (fun _ y=>y)
     exact n.o.2.trans ((aO.cJ R.o).trans (aO.put _ rfl))
   rw[if_neg de]at B;go_wp2_with fail
   go_quiet (fail)
   go_wp2_with fail
   have gV:J wr ((wr.alloc (.cells #[A x.op.id.1,A l,A x.op.nth,.iface x.t x.v] 210)).drewN nq):=below_drewN bL.o _;refine⟨⟨k+1,by omega,by go_num,?_,n.o.2.trans (aO.cJ gV)⟩,by simp[intOf];omega⟩;rw[B.o];exact n.o.1.ae gV
  have ho:k=d.length:=by omega
  subst ho;rw[ari]at s;have n:=aa (And.intro s f);clear s f;obtain⟨h1,h2,al,aL,b1,e9⟩:=Y.o;have HRD:=aa (ag0 n.o.1 h1 h2 al);clear h1 h2 al aL b1 e9;go_wp2_with fail
  refine HRD.o.mono ?_;rintro e w1 ⟨v1,Mj,rfl,mA,lJ,D3,mZ⟩;obtain⟨b2,cH,rfl,_,_,_⟩:=bm mA;have L:=aa (And.intro mA (And.intro lJ (And.intro D3 mZ)));clear mA lJ D3 mZ;have QJ:=aa (Xz L.o.2.1 (iL (iB has early d) has a) Y.o.2.2.2.1 Y.o.2.2.2.2.1 Y.o.2.2.2.2.2 (.slice b2 (iL (iB has early d) has a).length cH) (XT L.o.1) (fun k M hF=>by
   have h1:=(ap1 L.o.1 k M).1;have h2:=n.o.1.lt k hF;omega) (fun x ao=>by
   obtain⟨p,S,rfl⟩:=Ml ao;exact(n.o.1.BH p S).ft (fun j E=>L.o.2.2.2.other j (n.o.1.cx j E) fun e=>n.o.1.eC j E (e▸n.o.1.pf)) (fun _ y=>y)))
  go_wp2_with fail
  refine QJ.o.mono ?_;rintro e w2 ⟨⟨r,rfl⟩,U,X,se,XV,my⟩;have ff:=aa (And.intro se (And.intro XV my));clear se XV my;go_wp2;go_end0
  refine⟨⟨_,rfl⟩,U,X,Mj,ff.o.1,L.o.2.2.1,ff.o.2.1,?_⟩;have f:=n.o.2.trans L.o.2.2.2;have N:=ff.o.2.2;exact⟨N.os.trans f.os,N.tape.trans f.tape,N.output.trans f.output,ap0 f.size N.size,fun k M hF=>(N.other k (ap3 M f.size) hF).trans (f.other k M fun e=>hF (e▸u.o.pf)),fun k M=>(N.sub k M).imp id fun y=>ap0 f.size y⟩
structure rl (w:World) (g cap N:Nat) (known:Nat->Int):Prop where
 cells:∀i,i<N->w.cell? (K g i)=some (A (known i))
 IB:N<=cap
 IC:cap<=9223372036854775807
 lt:g<w.heap.size
theorem rl.ae{w g cap N a}{w':World}(h:rl w g cap N a)(b:J w w'):rl w' g cap N a:=
 ⟨fun i c=>Go.Proofs.YtnkpogjiiohapaaGreatDoor.ae b (h.cells i c),h.IB,h.IC,ap3 h.lt b.size⟩
def sg (a:Nat->Int) (o:ar):Bool:=decide (a o.op.id.2.toNat<o.op.nth)
theorem ahf {α:Type} {f:α->Bool} {l:List α} (b:a<l.length):(l.take (a+1)).filter f=(l.take a).filter f++if f l[a] then[l[a]] else[]:=by
 rw[aqp b,arq];cases h:f l[a]<;>simp[h]
theorem ahg{w p sp su dm cf l n rs d aB be F I D0 D gk hX N m}(h:kW w p sp su dm cf l n rs d aB be F I D0 D)(E:rl w gk hX N m)(hN:N<=4)(q:∀x∈l,0<=x.op.id.2/\x.op.id.2<N)(cO:(l.map en).Nodup):
  O 276 #[.pointer (some ⟨p,0,none⟩),.slice (some ⟨gk,0,none⟩) N hX] w fun e w'=>∃v M,e=.returned v/\fN w.heap.size w' v M/\M.Perm (l.filter (sg m))/\yy M/\Below w.heap.size w w':=by
 have W:=h.blk;unfold nX at W;obtain⟨bf,a6,bc,bZ,ee⟩:=gb W;clear bf a6 bZ ee;have hlen:=h.len;obtain⟨a,c,rfl,jq,cZ,aD⟩:=bm h.row;unfold maxLen at cZ;have dn:=aa aD;have s:=aa (And.intro h (And.intro E (And.intro q cO)));clear h E q cO W aD;have BB:=s.o.2.1.IB;have XW:=s.o.2.1.IC;go_enter func276,ntmps276;go_wp2_with fail
 go_loopw [5,13] (fun v i wr=>∃k,k<=l.length/\i=.int .i64 (k:Nat)/\fN w.heap.size wr v ((l.take k).filter (sg m))/\Below w.heap.size w wr) (fun _ i _=>l.length-(intOf i).toNat)
 case atStart=>exact⟨0,apZ _,rfl,(show fN w.heap.size w (.slice none 0 0) [] from aqe _ _ _ _),apY _ _⟩
 case round=>
  obtain⟨k,dZ,rfl,y,r⟩:=hrel;by_cases P:k<l.length
  ·obtain⟨g,rfl⟩:=dn.o k P;obtain⟨cC,aj,aw,cS⟩:=fN.cells (c7 s.o.1.row r) k P;obtain⟨jY,eN⟩:=s.o.2.2.1 l[k] (ap6 P);have L:=aa (ahf (f:=sg m) P);obtain⟨x,X⟩:∃x,x=l[k]:=⟨_,rfl⟩;rw[<-X]at cC aj aw cS jY eN L;obtain⟨b,q⟩:∃b:Nat,x.op.id.2=(b:Int):=⟨x.op.id.2.toNat,by omega⟩;have Iu:b<N:=by omega
   have XA:(0:Int)<=(b:Int):=aqc _;have L0:(b:Int)<(N:Int):=by omega
   have BQ:=(s.o.2.1.ae r).cells b Iu;have aos:=(s.o.2.1.ae r).lt;have sC:=r.size;have c9:g<wr.heap.size:=aqd wr _ cC;have jR:(0:Int)<=(k:Int):=aqc _;have df:(k:Int)<(l.length:Int):=by omega
   have aP:=aa X;clear X;rw[q]at aj;have z:=aa y;clear y;have B:=aa r;clear r;have hnk:=World.new_ne wr ⟨gk,b,none⟩ BQ;have kS:=aa (show sg m x=decide (m b<x.op.nth) by unfold sg;rw[q];rfl);have zj:=aa q;obtain⟨C,Y⟩:∃C,C=(l.take k).filter (sg m):=⟨_,rfl⟩;rw[<-Y]at z L;have nC:C.length<=300:=by
    rw[Y];have h1:=aqR (sg m) (l.take k);rw[aqg]at h1;omega
   clear Y;obtain⟨dr,dh,rfl,tW,vE,uy⟩:=bm z.o;clear uy;unfold maxLen at vE;by_cases XX:m b<x.op.nth
   ·rw[kS.o,decide_eq_true XX,if_pos rfl]at L;have bL:=aa (show Below wr.heap.size wr ((wr.alloc (.cells #[.int .i64 x.op.id.1,.int .i64 b,.int .i64 x.op.nth,.iface x.t x.v] 210)).alloc (.cells #[.int .i64 x.op.id.1,.int .i64 b,.int .i64 x.op.nth,.iface x.t x.v] 210)).drew from(((apY wr.heap.size wr).alloc (apX _) _).alloc (by simp) _).drew);have Iy:=aa (show ∀j u,(dH x)[j]?=some u->((wr.alloc (.cells #[.int .i64 x.op.id.1,.int .i64 b,.int .i64 x.op.nth,.iface x.t x.v] 210)).alloc (.cells #[.int .i64 x.op.id.1,.int .i64 b,.int .i64 x.op.nth,.iface x.t x.v] 210)).drew.cell? ⟨wr.heap.size+1,j,none⟩=some u by
     have p:=ym (wr.alloc (.cells #[.int .i64 x.op.id.1,.int .i64 b,.int .i64 x.op.nth,.iface x.t x.v] 210)) (.int .i64 x.op.id.1) (.int .i64 b) (.int .i64 x.op.nth) (.iface x.t x.v) 210;rw[show(wr.alloc (.cells #[.int .i64 x.op.id.1,.int .i64 b,.int .i64 x.op.nth,.iface x.t x.v] 210)).heap.size=wr.heap.size+1 by simp]at p;exact PW (w:=(_:World).drew) p.1 (zj.o▸p.2.1) p.2.2.1 p.2.2.2)
    clear q;go_wp2_with fail
    go_region
    go_wp2_with (first
     |(at_builtin;refine zB dH 4 40 202 210 (.agg #[.int .i64 0,.int .i64 0,.int .i64 0,.nilIface]) (by kernel_rfl) underlying202 rfl (by omega) (fun _=>rfl) rfl (.tmp 26) (.tmp 28) rfl w.heap.size (.slice dr C.length dh) C rfl (c7 z.o bL.o) (wr.heap.size+1) 1 x rfl Iy.o (Bp x) (by omega) (by unfold maxLen;omega) (by have :=bL.o.size;omega) ?_;intro v' w10 BO zR Iz;have D2:=aa BO;have F8:=aa zR;clear BO zR Iz)
     |fail)
    refine⟨⟨k+1,by omega,by go_num,?_,?_⟩,by simp[intOf];omega⟩
    ·rw[L.o];show w10.ownsRow w.heap.size 210 4 v' (C++[x]).length ((C++[x]).flatMap dH);rw[ap4];exact D2.o
    have aY:=B.o.trans (bL.o.mono B.o.size);exact aY.grown F8.o aY.size (fun k E=>(ap1 z.o k E).1)
   rw[kS.o,decide_eq_false XX]at L;clear q;go_wp2_with fail
   go_region
   go_wp2_with fail
   have gV:Below wr.heap.size wr (wr.alloc (.cells #[.int .i64 x.op.id.1,.int .i64 b,.int .i64 x.op.nth,.iface x.t x.v] 210)).drew:=((apY wr.heap.size wr).alloc (apX _) _).drew;refine⟨⟨k+1,by omega,by go_num,?_,B.o.trans (gV.mono B.o.size)⟩,by simp[intOf];omega⟩;rw[L.o];rw[if_neg (by decide),aqB];exact c7 z.o gV
  have ho:k=l.length:=by omega
  subst ho;rw[ari]at y;obtain⟨dr,dh,rfl,_,_,_⟩:=bm y;have KW:=aa (aha y (List.Nodup.sublist (List.filter_sublist.map _) s.o.2.2.2) (by have :=aqR (sg m) l;omega));have z:=aa y;clear y;have B:=aa r;clear r;go_wp2_with fail
  refine KW.o.mono ?_;rintro e w1 ⟨rfl,M,Q,R,S,U⟩;have aP:=aa (And.intro Q (And.intro R (And.intro S U)));clear Q R S U;go_wp2;go_ret
  obtain⟨Q,R,S,U⟩:=aP.o;exact⟨_,M,rfl,S,Q,R,B.o.grown U B.o.size (fun k E=>(ap1 z.o k E).1)⟩
end
end Go.Proofs.YtnkpogjiiohapaaGreatDoor
