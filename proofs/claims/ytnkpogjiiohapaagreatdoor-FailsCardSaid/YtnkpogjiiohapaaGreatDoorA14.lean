/- Our own text. -/
import Derived.Laws.CopyRow
import Derived.Shelf.Spec.SlicesInsert
import Derived.Lib.AppendZerosOnto
import Derived.Test.YtnkpogjiiohapaaGreatDoorA13
set_option linter.unusedSimpArgs false
set_option linter.unusedVariables false
set_option maxRecDepth 1000000
set_option maxHeartbeats 4000000
namespace Go.Proofs.YtnkpogjiiohapaaGreatDoor
section
open Go.RowKit Go.Proofs Tryz
variable {a b:Nat}
theorem LZ{P:Program}(w:World)(h n p d:TypeId)(g o e q:Nat)(a:Addr)(f r k:Nat)(c:Array Value)(t:TypeId)(b:List Value)(s:P.underlying h=some (.slice d))(u:(P.info? d).map (·.size)=some k)(x:w.heap[g]?=some (.cells c t (0,0)))(y:b.length=Nat.min f e*k)(z:∀j v,b[j]?=some v->w.cell? (a.add j)=some v)(D:o+b.length<=c.size)(B:∀v∈b,v.oneCell'=true):
  (Builtin.copy_ #[h,n] p #[.slice (some (K g o)) e q,.slice (some a) f r]).run P w=
   .ok (goInt (Nat.min f e)) (w.setRow g (c.toList.take o++b++c.toList.drop (o+b.length)).toArray):=by
 have l:=run_loadCells_list (P:=P) w a b z;cases m:P.info? d with
 |none=>simp[m]at u
 |some i=>
  have C:i.size=k:=by simp_all
  rw[y]at l;simp[Builtin.copy_,run_underlying s,Builtin.lenOf,Builtin.firstCells,sizeOf,typeInfo,m,C,l,run_storeCells_at P g o t b 0 c w x (by omega) B]
theorem afG{e d X:List Value}{c:Nat}(k:e.length=c*4)(l:e.take (b*4)=d)(h:X.length=4)(q:a<b)(r:b+1<=c):
  (e.take ((a+1)*4)++d.drop (a*4)++e.drop ((a+1)*4+(d.drop (a*4)).length)).length=c*4/\
  ∀f,f=e.take ((a+1)*4)++d.drop (a*4)++e.drop ((a+1)*4+(d.drop (a*4)).length)->(f.take (a*4)++X++f.drop (a*4+X.length)).length=c*4/\(f.take (a*4)++X++f.drop (a*4+X.length)).take ((b+1)*4)=d.take (a*4)++X++d.drop (a*4):=by
 have i:d.length=b*4:=by rw[<-l,aqg];omega
 have g:(d.drop (a*4)).length=(b-a)*4:=by rw[aqA,i];omega
 have m:(e.take ((a+1)*4)).length=a*4+4:=by rw[aqg];omega
 refine⟨by simp only[ap4,aqA,m,g,i,k];omega,fun f n=> ?_⟩;have o:f.take (a*4)=d.take (a*4):=by
  rw[n,aqs,arf (by omega),arG,<-l,arG];congr 1;omega
 have p:f.drop (a*4+X.length)=d.drop (a*4)++e.drop ((a+1)*4+(d.drop (a*4)).length):=by
  simp_all
 rw[o,p];have j:(d.take (a*4)).length=a*4:=by rw[aqg];omega
 refine⟨by simp only[ap4,aqA,j,g,i,k,h];omega,?_⟩;rw[<-aqs,arf (by simp only[ap4,j,g,h];omega),aql (by simp only[ap4,j,g,h];omega)]
theorem Wz{l:List ar}{x:ar}(b:a<l.length):(l.take a++x::l.drop a).flatMap dH=(l.flatMap dH).take (a*4)++dH x++(l.flatMap dH).drop (a*4):=by
 have c:((l.take a).flatMap dH).length=a*4:=by rw[qS dH 4 (fun _=>rfl),aqg];omega
 have d:l.flatMap dH=(l.take a).flatMap dH++(l.drop a).flatMap dH:=by rw[<-aqG,arI]
 simp_all
theorem H5:(prog.info? 210).map (·.size)=some 4:=by kernel_rfl
theorem afH(w:World):(Go.sizeOf 210).run prog w=.ok 4 w:=by
 have h:=H5;cases a:prog.info? 210 with
 |none=>rw[a]at h;cases h
 |some i=>
  rw[a]at h;have b:i.size=4:=by simp_all
  simp[sizeOf,typeInfo,a,b]
theorem afI{w:World}{l:List ar}{f:Array Value}(s:w.heap[a]?=some (.cells f 210 (0,0)))(F:f.size=b*4)(I:f.toList.take (l.length*4)=l.flatMap dH)(L:l.length+1<=b)(cZ:b<=9223372036854775807)(x:ar)(g:Nat)(t:w.heap[g]?=some (.cells (dH x).toArray 210 (0,0)))(M:g≠a)(i:Nat)(N:i<l.length)(hl:l.length<=100000):
  O 212 #[.slice (some (H a)) l.length b,A i,.slice (some (H g)) 1 1] w fun e Q=>e=.returned (.slice (some (H a)) (l.length+1) b)/\fN 0 Q (.slice (some (H a)) (l.length+1) b) (l.take i++x::l.drop i)/\aO (fun k=>k=a) w Q:=by
 have Bq:∀z B,(callFunc 233 #[.slice (some (H g)) 1 1,.slice (some (K a ((i+1)*4))) z B]).run prog w=.ok (.value (.bool false)) w:=fun z B=>by
  rw[run_callFunc_extern func233 (by rfl) (by rfl) (by kernel_rfl) (e:=Extern.SlicesOverlaps.overlaps #[202,202] #[4]) (by kernel_rfl),
   Lib.run_overlaps_apart w 202 4 210 underlying202 4 afH (H g) (K a ((i+1)*4)) 1 1 z B M 210 210 4 (b*4) (by simp[World.shape?,t,dH]) (by simp[World.shape?,s,F]) (by omega) (by simp[World.frozen?,t]) (by simp[World.frozen?,t])]
  rfl
 have hz2:¬((i:Int)=(l.length:Int)):=by omega
 have hT:IntKind.i64.wrap ((i:Int)+1)=(i:Int)+1:=aqS _ (by omega);have jg:i<=l.length:=by omega
 have Bi:((i:Int)+1).toNat=i+1:=by omega
 have aY:¬(b=i+1):=by omega
 have bb:(i:Int)<=(l.length:Int)+1:=by omega
 have gp:¬(b=i):=by omega
 have q6:¬((b:Int)<(l.length:Int)+1):=by omega
 have pI:(0:Int)<=(i:Int):=by simp
 have aq:(0:Int)<=(i:Int)+1:=by omega
 have mixed:prog.follows .mixedOrders=true:=by rfl
 have zD:(i:Int)<=(l.length:Int):=by omega
 have tQ:=qS dH 4 (fun _=>rfl) l;have j0:f.toList.length=b*4:=by omega
 have R:∀j v,(l.flatMap dH)[j]?=some v->w.cell? (K a j)=some v:=fun j v q=>by
  rw[cell_of_row w a j f 210 (0,0) s];rw[<-I,art]at q
  simp_all
 have S:∀v∈l.flatMap dH,v.oneCell'=true:=fun v C=>by
  obtain⟨o,_,af⟩:=aqq.1 C;exact Bp o v af
 obtain⟨c,u⟩:∃c,c=(f.toList.take ((i+1)*4)++(l.flatMap dH).drop (i*4)++f.toList.drop ((i+1)*4+((l.flatMap dH).drop (i*4)).length)).toArray:=⟨_,rfl⟩;have U:((l.flatMap dH).drop (i*4)).length=(l.length-i)*4:=by rw[aqA,tQ];omega
 have L0:∀m n D,(Builtin.copy_ #[202,202] m #[.slice (some (K a ((i+1)*4))) (l.length-i) n,.slice (some (K a (i*4))) (l.length+1-i) D]).run prog w.drew=.ok (goInt (l.length-i:Nat)) (w.drew.setRow a c):=fun m n D=>by
  have r:Nat.min (l.length+1-i) (l.length-i)=l.length-i:=by simp only[Nat.min_def];split <;>omega
  have :=LZ (P:=prog) w.drew 202 202 m 210 a ((i+1)*4) (l.length-i) n (K a (i*4)) (l.length+1-i) D 4 f 210 ((l.flatMap dH).drop (i*4)) underlying202 H5 s (by rw[U,r]) (fun j v q=>by
   rw[asg];exact R _ v (by rwa [List.getElem?_drop]at q)) (by rw[U,F];omega) (fun v C=>S v (aq8 C))
  rw[r,<-u]at this;exact this
 obtain⟨W,Y⟩:=afG (X:=dH x) j0 I rfl N L;have P0:c.size=b*4:=by rw[u];simpa using W
 obtain⟨WA,WB⟩:=Y c.toList (by rw[u]);obtain⟨d,y⟩:∃d,d=(c.toList.take (i*4)++dH x++c.toList.drop (i*4+(dH x).length)).toArray:=⟨_,rfl⟩;have WC:(w.drew.setRow a c).heap[a]?=some (.cells c 210 (0,0)):=setRow_heap w.drew a f c 210 (0,0) s;have E:∀k,k≠a->(w.drew.setRow a c).heap[k]?=w.heap[k]?:=fun k p=>setRow_other w.drew a k c p
 have zE:∀m n,(Builtin.copy_ #[202,202] m #[.slice (some (K a (i*4))) (l.length+1-i) n,.slice (some (H g)) 1 1]).run prog (w.drew.setRow a c)=.ok (goInt (1:Nat)) ((w.drew.setRow a c).setRow a d):=fun m n=>by
  have r:Nat.min 1 (l.length+1-i)=1:=by simp only[Nat.min_def];split <;>omega
  have :=LZ (P:=prog) (w.drew.setRow a c) 202 202 m 210 a (i*4) (l.length+1-i) n (H g) 1 1 4 c 210 (dH x) underlying202 H5 WC (by rw[r];rfl) (fun j v q=>by
   rw[asg,aqQ,cell_of_row _ g j _ 210 (0,0) ((E g M).trans t)];simpa using q) (by rw[P0];show i*4+4<=_;omega) (Bp x)
  rw[r,<-y]at this;exact this
 have afJ:((w.drew.setRow a c).setRow a d).heap[a]?=some (.cells d 210 (0,0)):=setRow_heap _ a c d 210 (0,0) WC;have DG:∀k,k≠a->((w.drew.setRow a c).setRow a d).heap[k]?=w.heap[k]?:=fun k p=>(setRow_other _ a k d p).trans (E k p)
 have gE:=aa (show fN 0 ((w.drew.setRow a c).setRow a d) (.slice (some (H a)) (l.length+1) b) (l.take i++x::l.drop i) from by
  have hlen:(l.take i++x::l.drop i).length=l.length+1:=by simp;omega
  have afK:=Wz (x:=x) N;unfold fN;rw[hlen];refine⟨by rw[qS dH 4 (fun _=>rfl),hlen],.inr ⟨a,b,d,rfl,apZ _,afJ,L,by unfold maxLen;omega,by rw[y];simpa using WA,?_⟩⟩;rw[afK,<-WB,y])
 have fy:=aa (show aO (fun k=>k=a) w ((w.drew.setRow a c).setRow a d) from⟨rfl,rfl,rfl,by rw[setRow_size,setRow_size];exact apX _,fun k _ p=>DG k p⟩);clear y u WB WA Y W DG E R S;go_enter func212,ntmps212;go_wp2_with (simp only[Bq])
 go_region_law_o (refine step_copy_runI rfl _ _ 202 202 rfl (.slice (some (K a ((i+1)*4))) (l.length-i) (b-(i+1))) (.slice (some (K a (i*4))) (l.length+1-i) (b-i)) (by simp[Act.eval,Act.put]) (by simp[Act.eval,Act.put]) (L0 _ _ _) ?_)
 go_wp2_with (at_builtin;refine wpList_copy_runI _ rfl _ _ 202 202 rfl _ _ rfl rfl (zE _ _) ?_)
 go_ret
 exact⟨rfl,gE.o,fy.o⟩
end
section
open Go.RowKit Tryz
attribute [local go_sem ↓] Go.wp_at_zero Go.wp_at_succ
def iI (k:Nat):List Value:=[Z k]
def um (B:Nat) (w:World) (v:Value) (l:List Nat):Prop:=w.ownsRow B 101 1 v l.length (l.flatMap iI)
theorem afL{w:World}{g:Nat}{a b c d e u:Value}{t:TypeId}(h:w.heap[g]?=some (.cells #[a,b,c,d,e] t (0,0))):(w.setCell (K g 2) u).heap[g]?=some (.cells #[a,b,u,d,e] t (0,0)):=by
 obtain⟨_,f⟩:=ap8.1 h;simp[World.setCell,aN h,aq5,f]
theorem P2{w:World}{g:Nat}{a b c d e u:Value}{t:TypeId}(h:w.heap[g]?=some (.cells #[a,b,c,d,e] t (0,0))):(w.setCell (K g 3) u).heap[g]?=some (.cells #[a,b,c,u,e] t (0,0)):=by
 obtain⟨_,f⟩:=ap8.1 h;simp[World.setCell,aN h,aq5,f]
theorem aO.r2{S:Nat->Prop}{w a:World}{b:Option Nat}(h:w.grownBy a b)(c:∀k,b=some k->S k):aO S w a:=
 ⟨h.os,h.tape,h.output,h.size,fun k d f=>h.block k d (fun e=>f (c k e.symm))⟩
theorem dy{w:World}{g o k:Nat}{u:Value}(h:k≠g):(w.setCell (K g o) u).heap[k]?=w.heap[k]?:=by
 simp[World.setCell,ars,aqa h]
theorem aO.kU{S:Nat->Prop}{w:World}{g o:Nat}(u:Value)(a:S g):aO S w (w.setCell (K g o) u):=
 ⟨rfl,rfl,rfl,by simp,fun k _ b=>dy (fun e=>b (e▸a))⟩
theorem iR.mono{w' v v'}{w:World}(h:iR w' v v')(a:w.heap.size<=w'.heap.size):iR w v v':=h.imp id fun h k b=>ap0 a (h k b)
theorem iR.trans{w w' u v z}(h:iR w u v)(k:iR w' v z)(a:w.heap.size<=w'.heap.size):iR w u z:=by
 rcases k with k|k
 ·rw[iR,k];exact h
 exact .inr fun j b=>ap0 a (k j b)
end
end Go.Proofs.YtnkpogjiiohapaaGreatDoor
