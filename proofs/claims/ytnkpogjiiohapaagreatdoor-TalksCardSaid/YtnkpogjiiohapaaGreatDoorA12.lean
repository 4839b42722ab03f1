/- Our own text. -/
import Derived.Laws.CopyRow
import Derived.Shelf.Spec.SlicesInsert
import Derived.Lib.AppendZerosOnto
import Derived.Shelf.Spec.SlicesInsertGrow
import Derived.Deep.RegionLaw
import Derived.Test.YtnkpogjiiohapaaGreatDoorA11
set_option linter.unusedSimpArgs false
set_option linter.unusedVariables false
set_option maxRecDepth 1000000
set_option maxHeartbeats 4000000
namespace Go.Proofs.YtnkpogjiiohapaaGreatDoor
section
open Go.RowKit Go.Proofs Tryz
variable {a b:Nat}
theorem K1{P:Program}(w:World)(l p q d:TypeId)(g o e r:Nat)(a:Addr)(f s k:Nat)(c:Array Value)(t:TypeId)(b:List Value)(u:P.underlying l=some (.slice d))(m:(P.info? d).map (·.size)=some k)(x:w.heap[g]?=some (.cells c t (0,0)))(y:b.length=Nat.min f e*k)(z:∀j v,b[j]?=some v->w.cell? (a.add j)=some v)(B:o+b.length<=c.size)(C:∀v∈b,v.oneCell'=true):
  (Builtin.copy_ #[l,p] q #[.slice (some (K g o)) e r,.slice (some a) f s]).run P w=
   .ok (goInt (Nat.min f e)) (w.setRow g (c.toList.take o++b++c.toList.drop (o+b.length)).toArray):=by
 have n:=run_loadCells_list (P:=P) w a b z;have D:=run_storeCells_at P g o t b 0 c w x (by simpa using B) C;cases h:P.info? d with
 |none=>simp[h]at m
 |some i=>
  have E:i.size=k:=by simpa[h]using m
  rw[y]at n;simp[Builtin.copy_,run_underlying u,Builtin.lenOf,Builtin.firstCells,sizeOf,typeInfo,h,E,n,D]
theorem aeC{e d X:List Value}{c:Nat}(k:e.length=c*4)(l:e.take (b*4)=d)(g:X.length=4)(q:a<b)(r:b+1<=c):
  (e.take ((a+1)*4)++d.drop (a*4)++e.drop ((a+1)*4+(d.drop (a*4)).length)).length=c*4/\
  ∀f,f=e.take ((a+1)*4)++d.drop (a*4)++e.drop ((a+1)*4+(d.drop (a*4)).length)->(f.take (a*4)++X++f.drop (a*4+X.length)).length=c*4/\(f.take (a*4)++X++f.drop (a*4+X.length)).take ((b+1)*4)=d.take (a*4)++X++d.drop (a*4):=by
 have i:d.length=b*4:=by rw[<-l,ao7];omega
 have h:(d.drop (a*4)).length=(b-a)*4:=by rw[apm,i];omega
 have m:(e.take ((a+1)*4)).length=a*4+4:=by rw[ao7];omega
 refine⟨by simp only[aoW,apm,m,h,i,k];omega,fun f n=> ?_⟩;have o:f.take (a*4)=d.take (a*4):=by
  rw[n,apf,ap3 (by omega),aqs,<-l,aqs];congr 1;omega
 have p:f.drop (a*4+X.length)=d.drop (a*4)++e.drop ((a+1)*4+(d.drop (a*4)).length):=by
  rw[n,apf,g,<-m,List.drop_left]
 rw[o,p];have j:(d.take (a*4)).length=a*4:=by rw[ao7];omega
 refine⟨by simp only[aoW,apm,j,h,i,k,g];omega,?_⟩;rw[<-apf,ap3 (by simp only[aoW,j,h,g];omega),apc (by simp only[aoW,j,h,g];omega)]
theorem VD{l:List av}{x:av}(f:a<l.length):(l.take a++x::l.drop a).flatMap dn=(l.flatMap dn).take (a*4)++dn x++(l.flatMap dn).drop (a*4):=by
 have b:((l.take a).flatMap dn).length=a*4:=by rw[qF dn 4 (fun _=>rfl),ao7];omega
 have c:l.flatMap dn=(l.take a).flatMap dn++(l.drop a).flatMap dn:=by rw[<-apt,aqk]
 have d:(l.take a).flatMap dn=(l.flatMap dn).take (a*4):=by rw[c,<-b,List.take_left]
 have e:(l.drop a).flatMap dn=(l.flatMap dn).drop (a*4):=by rw[c,<-b,List.drop_left]
 rw[apt,ape,d,e,apf]
theorem Hd:(prog.info? 210).map (·.size)=some 4:=by kernel_rfl
theorem aeD(w:World):(Go.sizeOf 210).run prog w=.ok 4 w:=by
 have h:=Hd;cases a:prog.info? 210 with
 |none=>rw[a]at h;cases h
 |some i=>
  rw[a]at h;have b:i.size=4:=by simpa using h
  simp[sizeOf,typeInfo,a,b]
theorem aeE{w:World}{l:List av}{f:Array Value}(s:w.heap[a]?=some (.cells f 210 (0,0)))(z:f.size=b*4)(I:f.toList.take (l.length*4)=l.flatMap dn)(L:l.length+1<=b)(dh:b<=9223372036854775807)(x:av)(g:Nat)(t:w.heap[g]?=some (.cells (dn x).toArray 210 (0,0)))(M:g≠a)(i:Nat)(N:i<l.length)(hl:l.length<=100000):
  O 212 #[.slice (some (H a)) l.length b,A i,.slice (some (H g)) 1 1] w fun e Q=>e=.returned (.slice (some (H a)) (l.length+1) b)/\fH 0 Q (.slice (some (H a)) (l.length+1) b) (l.take i++x::l.drop i)/\aP (fun k=>k=a) w Q:=by
 have AO:∀B C,(callFunc 233 #[.slice (some (H g)) 1 1,.slice (some (K a ((i+1)*4))) B C]).run prog w=.ok (.value (.bool false)) w:=fun B C=>by
  rw[run_callFunc_extern func233 (by kernel_rfl) (by kernel_rfl) (by kernel_rfl) (e:=Extern.SlicesOverlaps.overlaps #[202,202] #[4]) (by kernel_rfl),
   Lib.run_overlaps_apart w 202 4 210 underlying202 4 aeD (H g) (K a ((i+1)*4)) 1 1 B C M 210 210 4 (b*4) (by simp[World.shape?,t,dn]) (by simp[World.shape?,s,z]) (by omega) (by simp[World.frozen?,t]) (by simp[World.frozen?,t])]
  rfl
 have hz2:¬((i:Int)=(l.length:Int)):=by omega
 have iz:IntKind.i64.wrap ((i:Int)+1)=(i:Int)+1:=apO _ (by omega);have jr:i<=l.length:=by omega
 have xE:((i:Int)+1).toNat=i+1:=by omega
 have aU:¬(b=i+1):=by omega
 have a8:(i:Int)<=(l.length:Int)+1:=by omega
 have fC:¬(b=i):=by omega
 have qS:¬((b:Int)<(l.length:Int)+1):=by omega
 have pj:(0:Int)<=(i:Int):=ao0 _;have aq:(0:Int)<=(i:Int)+1:=by omega
 have mixed:prog.follows .mixedOrders=true:=by kernel_rfl
 have zf:(i:Int)<=(l.length:Int):=by omega
 have tG:(l.flatMap dn).length=l.length*4:=qF dn 4 (fun _=>rfl) l;have kb:f.toList.length=b*4:=by simpa using z
 have R:∀j v,(l.flatMap dn)[j]?=some v->w.cell? (K a j)=some v:=fun j v m=>by
  rw[cell_of_row w a j f 210 (0,0) s];rw[<-I,aql]at m;split at m
  ·simpa using m
  ·cases m
 have S:∀v∈l.flatMap dn,v.oneCell'=true:=fun v D=>by
  obtain⟨o,_,ae⟩:=api.1 D;exact AN o v ae
 obtain⟨c,u⟩:∃c,c=(f.toList.take ((i+1)*4)++(l.flatMap dn).drop (i*4)++f.toList.drop ((i+1)*4+((l.flatMap dn).drop (i*4)).length)).toArray:=⟨_,rfl⟩;have U:((l.flatMap dn).drop (i*4)).length=(l.length-i)*4:=by rw[apm,tG];omega
 have K2:∀n p E,(Builtin.copy_ #[202,202] n #[.slice (some (K a ((i+1)*4))) (l.length-i) p,.slice (some (K a (i*4))) (l.length+1-i) E]).run prog w.drew=.ok (goInt (l.length-i:Nat)) (w.drew.setRow a c):=fun n p E=>by
  have r:Nat.min (l.length+1-i) (l.length-i)=l.length-i:=by simp only[Nat.min_def];split <;>omega
  have :=K1 (P:=prog) w.drew 202 202 n 210 a ((i+1)*4) (l.length-i) p (K a (i*4)) (l.length+1-i) E 4 f 210 ((l.flatMap dn).drop (i*4)) underlying202 Hd s (by rw[U,r]) (fun j v m=>by
   rw[aq7];exact R _ v (by rwa [List.getElem?_drop]at m)) (by rw[U,z];omega) (fun v D=>S v (ap0 D))
  rw[r,<-u]at this;exact this
 obtain⟨W,Y⟩:=aeC (X:=dn x) kb I rfl N L;have OU:c.size=b*4:=by rw[u];simpa using W
 obtain⟨VE,VF⟩:=Y c.toList (by rw[u]);obtain⟨d,y⟩:∃d,d=(c.toList.take (i*4)++dn x++c.toList.drop (i*4+(dn x).length)).toArray:=⟨_,rfl⟩;have VG:(w.drew.setRow a c).heap[a]?=some (.cells c 210 (0,0)):=setRow_heap w.drew a f c 210 (0,0) s;have F:∀k,k≠a->(w.drew.setRow a c).heap[k]?=w.heap[k]?:=fun k q=>setRow_other w.drew a k c q
 have xL:∀n p,(Builtin.copy_ #[202,202] n #[.slice (some (K a (i*4))) (l.length+1-i) p,.slice (some (H g)) 1 1]).run prog (w.drew.setRow a c)=.ok (goInt (1:Nat)) ((w.drew.setRow a c).setRow a d):=fun n p=>by
  have r:Nat.min 1 (l.length+1-i)=1:=by simp only[Nat.min_def];split <;>omega
  have :=K1 (P:=prog) (w.drew.setRow a c) 202 202 n 210 a (i*4) (l.length+1-i) p (H g) 1 1 4 c 210 (dn x) underlying202 Hd VG (by rw[r];rfl) (fun j v m=>by
   rw[aq7,apF,cell_of_row _ g j _ 210 (0,0) ((F g M).trans t)];simpa using m) (by rw[OU];show i*4+4<=_;omega) (AN x)
  rw[r,<-y]at this;exact this
 have aeF:((w.drew.setRow a c).setRow a d).heap[a]?=some (.cells d 210 (0,0)):=setRow_heap _ a c d 210 (0,0) VG;have CU:∀k,k≠a->((w.drew.setRow a c).setRow a d).heap[k]?=w.heap[k]?:=fun k q=>(setRow_other _ a k d q).trans (F k q)
 have iA:=aa (show fH 0 ((w.drew.setRow a c).setRow a d) (.slice (some (H a)) (l.length+1) b) (l.take i++x::l.drop i) from by
  have hlen:(l.take i++x::l.drop i).length=l.length+1:=by simp;omega
  have aeG:=VD (x:=x) N;unfold fH;rw[hlen];refine⟨by rw[qF dn 4 (fun _=>rfl),hlen],.inr ⟨a,b,d,rfl,aoR _,aeF,L,by unfold maxLen;omega,by rw[y];simpa using VE,?_⟩⟩;rw[aeG,<-VF,y])
 have fP:=aa (show aP (fun k=>k=a) w ((w.drew.setRow a c).setRow a d) from⟨rfl,rfl,rfl,by rw[setRow_size,setRow_size];exact aoP _,fun k _ q=>CU k q⟩);clear y u VF VE Y W CU F R S;go_enter func212,ntmps212;go_wp2_with (simp only[AO])
 go_region_law_o (refine step_copy_runI rfl _ _ 202 202 rfl (.slice (some (K a ((i+1)*4))) (l.length-i) (b-(i+1))) (.slice (some (K a (i*4))) (l.length+1-i) (b-i)) (by simp[Act.eval,Act.put]) (by simp[Act.eval,Act.put]) (K2 _ _ _) ?_)
 go_wp2_with (at_builtin;refine wpList_copy_runI _ rfl _ _ 202 202 rfl _ _ rfl rfl (xL _ _) ?_)
 go_ret
 exact⟨rfl,iA.o,fP.o⟩
end
section
open Go.RowKit Tryz
attribute [local go_sem ↓] Go.wp_at_zero Go.wp_at_succ
def iD (k:Nat):List Value:=[Z k]
def tP (B:Nat) (w:World) (v:Value) (l:List Nat):Prop:=w.ownsRow B 101 1 v l.length (l.flatMap iD)
theorem aeH{w:World}{g:Nat}{a b c d e u:Value}{t:TypeId}(h:w.heap[g]?=some (.cells #[a,b,c,d,e] t (0,0))):(w.setCell (K g 2) u).heap[g]?=some (.cells #[a,b,u,d,e] t (0,0)):=by
 have f:=aM h;obtain⟨_,i⟩:=ao1.1 h;simp[World.setCell,f,ap2,i]
theorem OW{w:World}{g:Nat}{a b c d e u:Value}{t:TypeId}(h:w.heap[g]?=some (.cells #[a,b,c,d,e] t (0,0))):(w.setCell (K g 3) u).heap[g]?=some (.cells #[a,b,c,u,e] t (0,0)):=by
 have f:=aM h;obtain⟨_,i⟩:=ao1.1 h;simp[World.setCell,f,ap2,i]
theorem aP.rN{S:Nat->Prop}{w a:World}{b:Option Nat}(h:w.grownBy a b)(c:∀k,b=some k->S k):aP S w a:=
 ⟨h.os,h.tape,h.output,h.size,fun k d f=>h.block k d (fun e=>f (c k e.symm))⟩
theorem dI{w:World}{g o k:Nat}{u:Value}(h:k≠g):(w.setCell (K g o) u).heap[k]?=w.heap[k]?:=by
 simp[World.setCell,aqw,ao5 h]
theorem aP.lf{S:Nat->Prop}{w:World}{g o:Nat}(u:Value)(a:S g):aP S w (w.setCell (K g o) u):=
 ⟨rfl,rfl,rfl,by simp[World.setCell],fun k _ b=>dI (fun e=>b (e▸a))⟩
theorem iT.mono{w' v v'}{w:World}(h:iT w' v v')(a:w.heap.size<=w'.heap.size):iT w v v':=h.imp id fun h k b=>aoS a (h k b)
theorem iT.trans{w w' u v z}(h:iT w u v)(k:iT w' v z)(a:w.heap.size<=w'.heap.size):iT w u z:=by
 rcases k with k|k
 ·rw[iT,k];exact h
 ·exact .inr fun j b=>aoS a (k j b)
end
section
open Go.RowKit Go.Proofs Tryz
theorem aeI:(prog.info? 210).map (fun i=>(i.zero,i.size,i.bytes))=some (some (.agg #[A 0,A 0,A 0,.nilIface]),4,40):=by kernel_rfl
theorem aeJ{d b X a:List Value}{n i:Nat}(hF:b.length=n*4)(g:X.length=4)(q:i<n)(h:d=b.take (i*4)++a)(r:(n+1-i)*4<=a.length):
  ∀c,c=d.take (i*4)++X++d.drop (i*4+X.length)->c.length=d.length/\(c.take ((i+1)*4)++b.drop (i*4)++c.drop ((i+1)*4+(b.drop (i*4)).length)).length=d.length/\(c.take ((i+1)*4)++b.drop (i*4)++c.drop ((i+1)*4+(b.drop (i*4)).length)).take ((n+1)*4)=b.take (i*4)++X++b.drop (i*4):=by
 intro c j;have f:(b.take (i*4)).length=i*4:=by rw[ao7];omega
 have k:(b.drop (i*4)).length=(n-i)*4:=by rw[apm,hF];omega
 have l:d.length=i*4+a.length:=by rw[h,aoW,f]
 have m:d.take (i*4)=b.take (i*4):=by rw[h,ap3 (by omega),aqs,Nat.min_self]
 have o:c.length=d.length:=by
  rw[j,m];simp only[aoW,apm,f,g,l];omega
 have p:c.take ((i+1)*4)=b.take (i*4)++X:=by
  rw[j,m];have e:(b.take (i*4)++X).length=(i+1)*4:=by rw[aoW,f,g];omega
  rw[<-e,List.take_left]
 refine⟨o,?_,?_⟩
 ·rw[p]
  simp only[aoW,apm,f,g,hF,o,l];omega
 ·rw[p,ap3 (by simp only[aoW,f,g,k];omega),apc (by simp only[aoW,f,g,k];omega)]
theorem aeK{w:World}{b:Nat}{l:List av}{y:Array Value}(Y:w.heap[b]?=some (.cells y 210 (0,0)))(cH:y.toList.take (l.length*4)=l.flatMap dn)(x:av)(g:Nat)(iX:w.heap[g]?=some (.cells (dn x).toArray 210 (0,0)))(i:Nat)(hi:i<l.length)(hl:l.length<=100000):
  O 212 #[.slice (some (H b)) l.length l.length,A i,.slice (some (H g)) 1 1] w fun e w'=>∃G,e=.returned (.slice (some (V w 0)) (l.length+1) G)/\fH 0 w' (.slice (some (V w 0)) (l.length+1) G) (l.take i++x::l.drop i)/\J w w':=by
 obtain⟨i0,pj,hz0,hzs,Hg⟩:=info_parts aeI;have s:(l.flatMap dn).length=l.length*4:=qF dn 4 (fun _=>rfl) l;have fN:=aM Y;have cP:=aM iX;have z:∀j v,(l.flatMap dn)[j]?=some v->w.cell? (K b j)=some v:=fun j v f=>by
  rw[cell_of_row w b j y 210 (0,0) Y];rw[<-cH,aql]at f;split at f
  ·simpa using f
  ·cases f
 have He:∀v∈l.flatMap dn,v.oneCell'=true:=fun v B=>by
  obtain⟨o,_,ae⟩:=api.1 B;exact AN o v ae
 have C:i+(l.length+1-i)=l.length+1:=by omega
 have uO:(l.length:Int)+1-(i:Int)=((l.length+1-i:Nat):Int):=by omega
 have hold:(Builtin.firstCells i0.size i (.slice (some (H b)) i l.length)).run prog w.drew=.ok ((l.flatMap dn).take (i*4)).toArray w.drew:=by
  rw[hzs];exact run_firstCells_some w.drew 4 i (H b) i l.length ((l.flatMap dn).take (i*4)) (by rw[ao7,s];omega) (fun j v f=>by
   rw[aq7,apF];rw[aql]at f;split at f
   ·exact z j v f
   ·cases f)
 have D:∀m,(Builtin.append_ #[202,3] m #[.slice (some (H b)) i l.length,A ((l.length:Int)+1-(i:Int))]).run prog w=
   .ok (.slice (some (V w 0)) (l.length+1) (grownCap w (l.length+1) l.length 210)) (w.drew.alloc (.cells (((l.flatMap dn).take (i*4)).toArray++Builtin.zeroCells (Value.agg #[A 0,A 0,A 0,.nilIface]).cells (l.length+1-i)++Builtin.zeroCells (Value.agg #[A 0,A 0,A 0,.nilIface]).cells (grownCap w (l.length+1) l.length 210-(l.length+1))) 210)):=fun m=>by
  have h:=Lib.run_append_grow_zeros (P:=prog) w 202 3 m 210 i0 _ .i64 .i64 underlying202 underlying3 pj hz0 (some (H b)) i l.length ((l.flatMap dn).take (i*4)) hold (l.length+1-i) (by omega) (by omega) (by omega) (by omega) (by rw[Hg];omega) (by rw[Hg,C];exact growslice_fits (by omega) (by omega));rw[C]at h;rw[uO];exact h
 obtain⟨G,t⟩:∃G,G=grownCap w (l.length+1) l.length 210:=⟨_,rfl⟩;have hGn:l.length+1<=G:=by rw[t];exact grownCap_ge w _ _ _
 have am3:G<=9223372036854775807:=by
  have :=grownCap_le_maxLen w (l.length+1) l.length 210 (by unfold maxLen;omega);rw[<-t]at this;unfold maxLen at this;omega
 rw[<-t]at D;obtain⟨a,E⟩:∃a:List Value,a=(Builtin.zeroCells (Value.agg #[A 0,A 0,A 0,.nilIface]).cells (l.length+1-i)++Builtin.zeroCells (Value.agg #[A 0,A 0,A 0,.nilIface]).cells (G-(l.length+1))).toList:=⟨_,rfl⟩;obtain⟨c,F⟩:∃c:Array Value,c=((l.flatMap dn).take (i*4)).toArray++Builtin.zeroCells (Value.agg #[A 0,A 0,A 0,.nilIface]).cells (l.length+1-i)++Builtin.zeroCells (Value.agg #[A 0,A 0,A 0,.nilIface]).cells (G-(l.length+1)):=⟨_,rfl⟩;rw[<-F]at D;have I:c.toList=(l.flatMap dn).take (i*4)++a:=by rw[F,E];simp[apf]
 have Hh:∀k,(Builtin.zeroCells (Value.agg #[A 0,A 0,A 0,.nilIface]).cells k).size=k*4:=fun k=>by
  simp[Builtin.zeroCells,Value.cells]
  try omega
 have L:a.length=(l.length+1-i)*4+(G-(l.length+1))*4:=by rw[E];simp[Hh]
 have M:c.size=G*4:=by
  have :=congrArg List.length I;rw[aoW,ao7,s,L]at this;simp only[arq]at this;omega
 have N:((w.alloc (.cells c 210)).drew).heap[w.heap.size]?=some (.cells c 210 (0,0)):=bL w _;have Q:∀k,k<w.heap.size->((w.alloc (.cells c 210)).drew).heap[k]?=w.heap[k]?:=fun k q=>((aoQ w.heap.size w).alloc (aoP _) (.cells c 210)).drew.block k q
 obtain⟨d,R⟩:∃d,d=(c.toList.take (i*4)++dn x++c.toList.drop (i*4+(dn x).length)).toArray:=⟨_,rfl⟩;obtain⟨VH,VI,VJ⟩:=aeJ (X:=dn x) s rfl hi I (by rw[L];omega) d.toList (by rw[R]);have OU:d.size=G*4:=by
  have :d.toList.length=c.toList.length:=VH;simpa[M]using this
 have aeL:∀m p,(Builtin.copy_ #[202,202] m #[.slice (some (V w (i*4))) (l.length+1-i) p,.slice (some (H g)) 1 1]).run prog (w.alloc (.cells c 210)).drew=.ok (goInt (1:Nat)) ((w.alloc (.cells c 210)).drew.setRow w.heap.size d):=fun m p=>by
  have r:Nat.min 1 (l.length+1-i)=1:=by simp only[Nat.min_def];split <;>omega
  have :=K1 (P:=prog) (w.alloc (.cells c 210)).drew 202 202 m 210 w.heap.size (i*4) (l.length+1-i) p (H g) 1 1 4 c 210 (dn x) underlying202 Hd N (by rw[r];rfl) (fun j v f=>by
   rw[aq7,apF,cell_of_row _ g j _ 210 (0,0) ((Q g cP).trans iX)];simpa using f) (by rw[M];show i*4+4<=_;omega) (AN x)
  rw[r,<-R]at this;exact this
 have S:(((w.alloc (.cells c 210)).drew.setRow w.heap.size d).drew).heap[w.heap.size]?=some (.cells d 210 (0,0)):=setRow_heap _ _ c d 210 (0,0) N;have U:∀k,k<w.heap.size->(((w.alloc (.cells c 210)).drew.setRow w.heap.size d).drew).heap[k]?=w.heap[k]?:=fun k q=>(setRow_other _ _ k d (by omega)).trans (Q k q)
 obtain⟨n,u⟩:∃n,n=(d.toList.take ((i+1)*4)++(l.flatMap dn).drop (i*4)++d.toList.drop ((i+1)*4+((l.flatMap dn).drop (i*4)).length)).toArray:=⟨_,rfl⟩;have gP:((l.flatMap dn).drop (i*4)).length=(l.length-i)*4:=by rw[apm,s];omega
 have aeM:∀m p W,(Builtin.copy_ #[202,202] m #[.slice (some (V w ((i+1)*4))) (l.length-i) p,.slice (some (K b (i*4))) (l.length-i) W]).run prog (((w.alloc (.cells c 210)).drew.setRow w.heap.size d).drew)=.ok (goInt (l.length-i:Nat)) ((((w.alloc (.cells c 210)).drew.setRow w.heap.size d).drew).setRow w.heap.size n):=fun m p W=>by
  have r:Nat.min (l.length-i) (l.length-i)=l.length-i:=by simp only[Nat.min_def];split <;>omega
  have :=K1 (P:=prog) (((w.alloc (.cells c 210)).drew.setRow w.heap.size d).drew) 202 202 m 210 w.heap.size ((i+1)*4) (l.length-i) p (K b (i*4)) (l.length-i) W 4 d 210 ((l.flatMap dn).drop (i*4)) underlying202 Hd S (by rw[gP,r]) (fun j v f=>by
   rw[aq7,apW (w:=w) (U b fN)];exact z _ v (by rwa [List.getElem?_drop]at f)) (by rw[gP,OU];omega) (fun v B=>He v (ap0 B))
  rw[r,<-u]at this;exact this
 have zg:((((w.alloc (.cells c 210)).drew.setRow w.heap.size d).drew).setRow w.heap.size n).heap[w.heap.size]?=some (.cells n 210 (0,0)):=setRow_heap _ _ d n 210 (0,0) S;have Ay:∀k,k<w.heap.size->((((w.alloc (.cells c 210)).drew.setRow w.heap.size d).drew).setRow w.heap.size n).heap[k]?=w.heap[k]?:=fun k q=>(setRow_other _ _ k n (by omega)).trans (U k q)
 have iA:=aa (show fH 0 ((((w.alloc (.cells c 210)).drew.setRow w.heap.size d).drew).setRow w.heap.size n) (.slice (some (V w 0)) (l.length+1) G) (l.take i++x::l.drop i) from by
  have hlen:(l.take i++x::l.drop i).length=l.length+1:=by simp;omega
  unfold fH;rw[hlen];refine⟨by rw[qF dn 4 (fun _=>rfl),hlen],.inr ⟨w.heap.size,G,n,rfl,aoR _,zg,hGn,by unfold maxLen;omega,?_,?_⟩⟩
  ·rw[u]
   have :_=c.toList.length:=VI;simpa[M]using this
  ·rw[VD hi,<-VJ,u])
 have aK:=aa (show J w ((((w.alloc (.cells c 210)).drew.setRow w.heap.size d).drew).setRow w.heap.size n) from⟨rfl,rfl,rfl,by rw[setRow_size];show w.heap.size<=((w.alloc (.cells c 210)).drew.setRow w.heap.size d).heap.size;rw[setRow_size];show w.heap.size<=(w.alloc (.cells c 210)).heap.size;simp,Ay⟩);have hz2:¬((i:Int)=(l.length:Int)):=by omega
 have iz:IntKind.i64.wrap ((i:Int)+1)=(i:Int)+1:=apO _ (by omega);have jr:i<=l.length:=by omega
 have xE:((i:Int)+1).toNat=i+1:=by omega
 have hGi:¬(G=i):=by omega
 have am4:¬(G=i+1):=by omega
 have hci:¬(l.length=i):=by omega
 have aq:(0:Int)<=(i:Int)+1:=by omega
 have a8:(i:Int)<=(l.length:Int):=by omega
 have fC:(i:Int)<=(l.length:Int)+1:=by omega
 have am5:(0:Int)<=(i:Int):=ao0 _;have mixed:prog.follows .mixedOrders=true:=by kernel_rfl
 clear u R F E t I L Hh VH VI VJ uO C hold z He Q U Ay N S zg;go_enter func212,ntmps212;go_wp2_with (first
  |(at_builtin;refine Lib.wpList_append_run _ rfl _ _ _ _ rfl _ _ rfl rfl _ _ (D _) ?_)
  |(at_builtin;refine wpList_copy_runI _ rfl _ _ 202 202 rfl _ _ rfl rfl (aeL _ _) ?_))
 go_region_law_o (refine step_copy_runI rfl _ _ 202 202 rfl (.slice (some (V w ((i+1)*4))) (l.length-i) (G-(i+1))) (.slice (some (K b (i*4))) (l.length-i) (l.length-i)) (by simp[Act.eval,Act.put]) (by simp[Act.eval,Act.put]) (aeM _ _ _) ?_)
 go_wp2;go_ret
 exact⟨G,rfl,iA.o,aK.o⟩
theorem aeN{w v l}(h:fH 0 w v l)(x:av)(g:Nat)(o:w.heap[g]?=some (.cells (dn x).toArray 210 (0,0)))(B:v.ownBlock≠some g)(i:Nat)(C:i<=l.length)(p:l.length<=100000):
  O 212 #[v,A i,.slice (some (H g)) 1 1] w fun e d=>∃f,e=.returned f/\fH 0 d f (l.take i++x::l.drop i)/\aP (fun k=>v.ownBlock=some k) w d/\iT w v f:=by
 rcases Nat.eq_or_lt_of_le C with D|t
 ·subst D
  have n:∀j u,(dn x)[j]?=some u->w.cell? (K g j)=some u:=fun j u E=>by
   rw[cell_of_row w g j _ 210 (0,0) o];simpa using E
  refine(aey h x g (n 0 _ rfl) (n 1 _ rfl) (n 2 _ rfl) (n 3 _ rfl) p).mono fun e d a=> ?_
  obtain⟨f,q,r,s,F⟩:=a;refine⟨f,q,?_,aP.rN s fun k m=>m,F⟩;rw[apc (aoP _),List.drop_of_length_le (aoP _)];exact r
 ·rcases h.2 with⟨_,Q⟩|⟨b,c,R,rfl,_,y,S,I,L,z⟩
  ·omega
  ·unfold maxLen at I
   have M:g≠b:=fun e=>B (by rw[e];rfl)
   by_cases N:l.length+1<=c
   ·refine(aeE y L z N (by omega) x g o M i t p).mono fun e d a=> ?_
    exact⟨_,a.1,by
     have :=a.2.1;unfold fH at this⊢;have P:(l.take i++x::l.drop i).length=l.length+1:=by simp;omega
     rw[P]at this⊢;exact this,a.2.2.mono fun k m=>by rw[m];rfl,.inl rfl⟩
   ·obtain rfl:c=l.length:=by omega
    refine(aeK y z x g o i t p).mono fun e d a=> ?_
    obtain⟨G,q,r,s⟩:=a;exact⟨_,q,r,aP.cQ s,.inr fun k m=>by cases m;exact aoP _⟩
end
section
open Go.RowKit Tryz
attribute [local go_sem ↓] Go.wp_at_zero Go.wp_at_succ
variable {a d h i l:Nat}{b e:Value}{f:World}{j:List Nat}{k:TypeId}
def nr (w:World) (a b c:Nat) (e f:Value) (d:Nat):Prop:=w.heap[a]?=some (.cells #[A b,A c,e,f,Z d] 204 (0,0))
theorem aeP{w f}(h:nr w a d i b e l)(y:fH 0 w b f)(x:av)(n:Nat)(M:n<=f.length)(N:∀j (hi:j<f.length),j<n->nQ f[j].op.id x.op.id<0)(P:∀j (hi:j<f.length),n<=j->0<nQ f[j].op.id x.op.id)(Q:f.length<=100000):
  O 189 #[Z a,.agg #[A x.op.id.1,A x.op.id.2,A x.op.nth,.iface x.t x.v]] w fun g C=>∃D,g=.returned (A n)/\nr C a d i D e l/\fH 0 C D (f.take n++x::f.drop n)/\iT w b D/\aP (fun k=>k=a\/b.ownBlock=some k) w C:=by
 have R:=aa h;have qQ:=aa (show(f.take n++x::f.drop n).length=f.length+1 by simp;omega);obtain⟨bc,a6,s,bV,dC⟩:=ga h;clear bc a6 bV dC;have Gz:=aM h;clear h;obtain⟨U,X,Y,gR⟩:=xJ w (A x.op.id.1) (A x.op.id.2) (A x.op.nth) (.iface x.t x.v) 210;have z:=aa ((aoQ w.heap.size w).alloc (aoP _) (.cells #[A x.op.id.1,A x.op.id.2,A x.op.nth,.iface x.t x.v] 210));have hT:=aa (fun W (a:J w W)=>aez (c5 y a) x n M N P Q);obtain⟨m,c,rfl,jk,dh,aD⟩:=bp y;unfold maxLen at dh;clear aD N P;have E:=aa y;clear y;replace s:=af z.o s;go_enter func189,ntmps189;go_wp2_with fail
 go_region_held3 (fun W=>W.cell? (K a 2)=some (.slice m f.length c)/\W.cell? (V w 0)=some (A x.op.id.1)/\W.cell? (V w 1)=some (A x.op.id.2)/\W.cell? (V w 2)=some (A x.op.nth)/\W.cell? (V w 3)=some (.iface x.t x.v)) (go_keep)
  (first
   |(go_at_call 210;refine(hT.o _ z.o.drew).mono ?_;rintro g p ⟨rfl,aq⟩;have q:=Hq.o (mq aq);clear aq;replace s:=af q s;replace U:=af q U;replace X:=af q X;replace Y:=af q Y;replace gR:=af q gR;have r:=aa (z.o.trans (q.mono z.o.size));clear q))
 have B:=aa ((aoQ p.heap.size p).alloc (aoP _) (.cells #[A x.op.id.1,A x.op.id.2,A x.op.nth,.iface x.t x.v] 210)).drew;have cZ:=aa (aeN (w:=(p.alloc (.cells #[A x.op.id.1,A x.op.id.2,A x.op.nth,.iface x.t x.v] 210)).drew) (c5 (c5 E.o r.o) B.o) x p.heap.size (bL p _) (fun g=>by have :=(aoT (c5 E.o r.o) _ g).2;omega) n M Q);have j1:=aa ((aP.cQ (S:=fun k=>k=a\/(Value.slice m f.length c).ownBlock=some k) r.o).trans (aP.cQ B.o));have bS:=aa (bj (bj R.o r.o) B.o);have br:(Value.slice m f.length c).ownBlock≠some a:=fun g=>by
  obtain⟨cur,F⟩:=bt E.o g;exact absurd (bz F R.o) (by decide)
 have kp:=aa br;clear br;have hz1:=r.o.size;have fy:=World.new_ne p (K a 2) s;have am6:a<p.heap.size:=by omega
 have c3:(0:Int)<=(n:Int):=ao0 _;go_wp2_with fail
 go_region_with (first
  |(go_at_call 212;refine cZ.o.mono ?_;rintro g w2 ⟨v',rfl,jJ,I,lN⟩;have L:=aa jJ;have iC:=aa (j1.o.trans (I.mono (fun k hk=>.inr hk)));have u:=aa ((I.other a (aM bS.o) kp.o).trans bS.o);have rr:=aa lN;clear jJ I lN;obtain⟨ku,b2,wb,aeQ,O1,AQ⟩:=bp L.o;rw[qQ.o]at wb;subst wb;clear aeQ O1 AQ;have c2':=(ga u.o).2.2.1;have lq:=cS u.o 2;have aU:=aM u.o))
 all_goals go_wp2
 all_goals go_ret
 all_goals
  have O2:(Value.slice ku (f.length+1) b2).ownBlock≠some a:=fun g=>by
   obtain⟨cur,F⟩:=bt L.o g;exact absurd (bz F u.o) (by decide)
  refine⟨.slice ku (f.length+1) b2,rfl,?_,iW L.o O2 _,rr.o.mono ?_,iC.o.trans (aP.lf _ (.inl rfl))⟩
  ·exact aeH u.o
  ·exact aoS r.o.size B.o.size
theorem aeR{S e}{base:Nat}{size:Nat}{i:List Value}(h:f.ownsRow base k size b a i)(l:aP S f e)(m:∀g c d,f.heap[g]?=some (.cells c k d)->¬S g):e.ownsRow base k size b a i:=
 b4 h (fun g n=>by
  obtain⟨c,j⟩:=bt h n;exact l.other g (aM j) (m g _ _ j))
theorem O3(k:Nat):∀u∈iD k,u.oneCell'=true:=by
 intro u a;simp[iD]at a;subst a;rfl
theorem O4{w:World}{g:Nat}(c:w.cell? (H g)=some (Z a)):∀j u,(iD a)[j]?=some u->w.cell? (K g j)=some u:=by
 intro j u b
 match j with
 |0=>simp[iD]at b;rw[<-b];exact c
 |j+1=>simp[iD]at b
theorem VK{w:World}{g:Nat}{f:Nat×Nat}(h:w.heap[g]?=some (.cells #[b] k f)):w.cell? (H g)=some b:=by simp[World.cell?,h]
theorem cu.kept{S w m y z}(g:cu w a d h y z)(B:aP S w m)(C:∀k,S k->∃c t f,w.heap[k]?=some (.cells c t f)/\t≠174):cu m a d h y z:=by
 have n:∀(b:Nat) (i:Array MapEntry) (j:Nat),w.heap[b]?=some (.map i j)->m.heap[b]?=w.heap[b]?:=fun b i j D=>B.other b (aM D) fun u=>by
  obtain⟨c,t,f,o,_⟩:=C b u;rw[D]at o;cases o
 have r:∀v x,iN w v x->iN m v x:=fun v x r=>by
  refine r.imp id ?_;rintro⟨b,i,j,e,l⟩;exact⟨b,i,j,e,l.gE (n b _ _ l.blk)⟩
 obtain⟨i,j,E⟩:=g.ae;obtain⟨I,L,F⟩:=g.he;refine⟨?_,⟨i,j,E.gE (n _ _ _ E.blk)⟩,⟨I,L,F.gE (n _ _ _ F.blk)⟩,fun p s=>⟨?_,fun q M=>r _ _ ((g.hk p s).2 q M)⟩,fun p s=>r _ _ (g.aH p s)⟩
 ·rw[B.other a (aM g.ai) fun u=> ?_]
  ·exact g.ai
  ·obtain⟨c,t,f,o,N⟩:=C a u
   exact N (bz o g.ai)
 ·refine(g.hk p s).1.imp id ?_
  rintro⟨b,i,j,e,l⟩;exact⟨b,i,j,e,l.gE (n b _ _ l.blk)⟩
theorem rL.af{w c q}{w':World}(h:rL w c q)(d:J w w'):rL w' c q:=by
 rcases q with l|⟨x,b⟩|⟨o,key,x,g,f⟩|⟨o,key,x,f⟩
 ·exact h
 ·exact h
 ·obtain⟨s,e,a⟩:=h;exact⟨s,e,c5 a d⟩
 ·obtain⟨s,e,a⟩:=h;exact⟨s,e,c5 a d⟩
theorem KY.af{w g i o}{w':World}(h:KY w g i o)(a:J w w'):KY w' g i o:=by
 obtain⟨b,d,e,c,f,j⟩:=h;exact⟨Go.Proofs.YtnkpogjiiohapaaGreatDoor.af a b,Go.Proofs.YtnkpogjiiohapaaGreatDoor.af a d,Go.Proofs.YtnkpogjiiohapaaGreatDoor.af a e,c,Go.Proofs.YtnkpogjiiohapaaGreatDoor.af a f,j.af a⟩
theorem O5{w sp su}(h:nr w a sp su b e d)(k:Nat)(g:k<=10000)(i:sp<=50)(p:su<=50):
  O 132 #[Z a,A k] w fun c j=>c=.returned (A ((k*sp-su:Nat):Int))/\J w j:=by
 obtain⟨q,r,l,n,dC⟩:=ga h;clear l n dC;have o:k*sp<=10000*50:=Nat.mul_le_mul g i;obtain⟨m,f⟩:∃m:Nat,m=k*sp:=⟨_,rfl⟩;have s:(k:Int)*(sp:Int)=(m:Int):=by rw[f];simp
 rw[<-f]at o⊢;clear f;go_enter func132,ntmps132;go_wp2_with fail
 go_region
 all_goals go_wp2
 all_goals go_ret
 all_goals
  refine⟨?_,(aoQ _ w).drew⟩;show Ending.returned (A (max 0 ((m:Int)-(su:Int))))=_;rw[show max (0:Int) ((m:Int)-(su:Int))=((m-su:Nat):Int) by omega]
theorem VL(h:nr f i a d b e l)(k:Nat)(n:k<=10000)(o:1<=a)(p:a<=50)(q:d<=50):
  O 131 #[Z i,A k] f fun c g=>c=.returned (A (((d+k)/a:Nat):Int))/\J f g:=by
 obtain⟨r,s,j,m,dC⟩:=ga h;clear j m dC;have t:¬((a:Int)=0):=by omega
 have u:¬(a=0):=by omega
 have v:(d+k)/a<=d+k:=Nat.div_le_self _ _;go_enter func131,ntmps131;go_wp2_with fail
 go_region
 all_goals go_wp2
 all_goals go_ret
 all_goals
  refine⟨?_,(aoQ _ f).drew⟩;show Ending.returned (A (((d:Int)+(k:Int))/(a:Int)))=_;rw[show((d:Int)+(k:Int))/(a:Int)=(((d+k)/a:Nat):Int) by simp]
theorem VM{w}{g:Nat}(h:tP 0 w (.slice (some (H g)) a d) j)(i:Nat)(b:i<j.length):w.cell? (K g i)=some (Z (j[i])):=by
 have c:a=j.length:=by
  rcases h.2 with⟨e,_⟩|⟨l,m,n,e,_⟩
  ·simp at e
  ·simp only[apo]at e;exact e.2.1
 subst c;have :=iw (f:=iD) (k:=1) (fun _=>rfl) h rfl i b 0 (by omega);simpa[iD]using this
theorem VN{w:World}{g:Nat}{c d a u:Value}(h:w.heap[g]?=some (.cells #[b,e,c,d,a] k (0,0))):(w.setCell (K g 4) u).heap[g]?=some (.cells #[b,e,c,d,u] k (0,0)):=by
 obtain⟨f,i⟩:=ao1.1 h;simp[World.setCell,f,ap2,i]
theorem aeS{P:Program}(w:World)(t e b:TypeId)(z:Value)(d:P.underlying t=some (.slice e))(f:∀w,(zeroValue e).run P w=.ok z w)(a:Option Addr)(c:Nat):(Builtin.clear_ #[t] b #[.slice a 0 c]).run P w=.ok (.tuple #[]) w:=by
 cases a<;>simp[Builtin.clear_,run_underlying d,f,Builtin.zeroCells,storeCells]
theorem VO(w:World):(zeroValue 101).run prog w=.ok (.pointer none) w:=by kernel_rfl
theorem aeT{w sp su}(m:nr w a sp su e b h)(t:tP 0 w b j)(k:Nat)(hk:k<=9000)(hD:1<=sp)(R:sp<=50)(U:su<=50)(L:Nat)(B:(su+k)/sp=L)(X:L+1=j.length)(Y:j[L]?=some d){D:cN}(ao:cu w d i l D.1 D.2):
  O 190 #[Z a,A k] w fun f C=>∃p r s,f=.returned (A ((L*sp-su:Nat):Int))/\nr C a sp su e b p/\cu C p r s D.1 D.2/\(w.heap.size<=p/\w.heap.size<=r/\w.heap.size<=s/\r≠s)/\aP (fun k=>k=a) w C:=by
 have Hj:=aa (VL m k (by omega) hD R U);rw[B]at Hj;have hL1:L<=su+k:=by rw[<-B];exact Nat.div_le_self _ _
 clear B;obtain⟨Uz,CW⟩:=aqv.1 Y;clear Y;obtain⟨n,c,rfl,jk,dh,aD⟩:=bp t;unfold maxLen at dh;obtain⟨g,rfl⟩:=aD L (by omega);have E:=VM t L (by omega);rw[CW]at E;clear CW;have aT:=aa m;obtain⟨bc,a6,bd,bV,dC⟩:=ga m;clear bc a6 bd dC aD;go_enter func190,ntmps190;go_wp2_with fail
 refine Hj.o.mono ?_;rintro f F ⟨rfl,q⟩;have d3:=af q bV;have K5:=af q E;have ax:=aa q;have aeU:=fun ku b2 ty=>aeS (P:=prog) F 200 101 ty (.pointer none) underlying200 VO ku b2
 have hL0:(0:Int)<=(L:Int):=ao0 _;have v:j.length=L+1:=X.symm;rw[v]at d3 jk;have sN:=aa v;have hLc:¬(c<L+1):=by omega
 have CX:g≠a:=fun f=>by
  obtain⟨cur,hc⟩:=bt t (g:=g) rfl;rw[f]at hc;exact absurd (bz hc m) (by decide)
 have x:=bj m q;have mM:=cS x 3;have Hk:c≠L+1\/c=L+1:=by omega
 have dj:=aa (fun W (aF:aP (fun k=>k=a) w W)=>OK (ao.kept aF (fun k f=>⟨_,_,_,f▸aT.o,by decide⟩)));have I:=aa (show aP (fun k=>k=a) w (F.setCell (K a 3) (.slice (some (H g)) (L+1) c)) from(aP.cQ q).trans (aP.lf _ rfl));rw[v]at x;have cz:=aa (OW (u:=.slice (some (H g)) (L+1) c) x);have aw:(F.setCell (K a 3) (.slice (some (H g)) (L+1) c)).cell? (K g L)=some (Z d):=by
  simp only[World.cell?];rw[dI CX];simpa[World.cell?]using K5
 clear q X v bV E m t ao x;rcases Hk with Hk|rfl
 all_goals go_wp2_with (first
  |(go_at_call 213;refine(dj.o _ I.o).mono ?_;rintro f w3 ⟨⟨p,r,s,rfl,xM,AU,AV,AW,AX⟩,M⟩;have zh:=aa xM;have bK:=aa M;have y:=aa (And.intro AU (And.intro AV (And.intro AW AX)));have z:=aa (bj cz.o M);have zi:=cS z.o 4;have dC:=(ga z.o).2.2.2.2;clear xM M AU AV AW AX))
 all_goals
  have gn:=aa (VN (u:=Z p) z.o);have sK:=aa (zh.o.kept (aP.lf (S:=fun k=>k=a) (w:=w3) (g:=a) (o:=4) (Z p) rfl) (fun k f=>⟨_,_,_,f▸z.o,by decide⟩));have AF:=aa ((I.o.trans (aP.cQ bK.o)).trans (aP.lf (S:=fun k=>k=a) (w:=w3) (g:=a) (o:=4) (Z p) rfl));have O6:=aa (O5 (su:=su) (sp:=sp) gn.o L (by omega) R U);refine O6.o.mono ?_;rintro f w5 ⟨rfl,qS⟩;have N:=aa qS;clear qS;go_wp2;go_ret
  have Q:=I.o.size;refine⟨p,r,s,rfl,?_,sK.o.af N.o,⟨aoS Q y.o.1,aoS Q y.o.2.1,aoS Q y.o.2.2.1,y.o.2.2.2⟩,AF.o.trans (aP.cQ N.o)⟩;have :=bj gn.o N.o;unfold nr;rw[sN.o];exact this
theorem aeV{P:Program}(w:World)(t e h:TypeId)(z:Value)(j:P.underlying t=some (.slice e))(k:∀w,(zeroValue e).run P w=.ok z w)(l:z.cells= #[z])(b:z.oneCell'=true)(g o n c:Nat)(u:0<n)(a:Array Value)(d:TypeId)(p:w.heap[g]?=some (.cells a d (0,0)))(q:o+n<=a.size):
  (Builtin.clear_ #[t] h #[.slice (some (K g o)) n c]).run P w=.ok (.tuple #[]) (w.setRow g (a.toList.take o++List.replicate n z++a.toList.drop (o+n)).toArray):=by
 have r:(Builtin.zeroCells z.cells n).toList=List.replicate n z:=by
  rw[l];simp[Builtin.zeroCells];apply aqz
  ·simp
  ·intro i b x
   simp[Nat.mod_one]
 have f:=run_storeCells_at P g o d (List.replicate n z) 0 a w p (by simpa using q) (by intro v s;rw[List.eq_of_mem_replicate s];exact b);simp only[apL,List.length_replicate]at f;obtain⟨m,rfl⟩:∃m,n=m+1:=⟨n-1,by omega⟩;simp[Builtin.clear_,run_underlying j,k,r,f]
theorem aeW{w sp su}(n:nr w a sp su e b h)(z:tP 0 w b j)(k:Nat)(I:k<=9000)(hD:1<=sp)(ad:sp<=50)(uV:su<=50)(L:Nat)(Y:(su+k)/sp=L)(hl:L+1<j.length)(gP:j[L]?=some d){D:cN}(ao:cu w d i l D.1 D.2):
  O 190 #[Z a,A k] w fun f M=>∃g c s B C,b.ownBlock=some g/\f=.returned (A ((L*sp-su:Nat):Int))/\nr M a sp su e (.slice (some (H g)) (L+1) c) s/\tP 0 M (.slice (some (H g)) (L+1) c) (j.take (L+1))/\cu M s B C D.1 D.2/\(w.heap.size<=s/\w.heap.size<=B/\w.heap.size<=C/\B≠C)/\aP (fun k=>k=a\/b.ownBlock=some k) w M:=by
 have Hj:=aa (VL n k (by omega) hD ad uV);rw[Y]at Hj;have hL1:L<=su+k:=by rw[<-Y];exact Nat.div_le_self _ _
 clear Y;obtain⟨Uz,CW⟩:=aqv.1 gP;clear gP;obtain⟨p,c,rfl,jk,dh,aD⟩:=bp z;unfold maxLen at dh;obtain⟨g,rfl⟩:=aD L (by omega);have qd:=VM z L (by omega);rw[CW]at qd;clear CW;have aT:=aa n;obtain⟨bc,a6,bd,bV,dC⟩:=ga n;clear bc a6 bd dC aD;go_enter func190,ntmps190;go_wp2_with fail
 refine Hj.o.mono ?_;rintro f v ⟨rfl,x⟩;have d3:=af x bV;have K5:=af x qd;have ax:=aa x;obtain⟨r,y⟩:=bt z (g:=g) rfl;have E:g≠a:=fun f=>by
  rw[f]at y;exact absurd (bz y n) (by decide)
 obtain⟨gv,VP⟩:r.size=c/\r.toList.take j.length=j.flatMap iD:=by
  rcases z.2 with⟨f,_⟩|⟨g',N,iy,f,_,fX,_,_,iS,O7⟩
  ·simp at f
  ·simp only[apo,apD,apS,and_true,true_and]at f
   obtain⟨rfl,rfl⟩:=f;rw[y]at fX;cases fX;exact⟨by omega,by simpa using O7⟩
 have P:v.heap[g]?=some (.cells r 101 (0,0)):=(x.block g (aM y)).trans y;obtain⟨m,F⟩:∃m,m=(r.toList.take (L+1)++List.replicate (j.length-(L+1)) (Value.pointer none)++r.toList.drop (L+1+(j.length-(L+1)))).toArray:=⟨_,rfl⟩;obtain⟨q,t⟩:∃q,q=v.setRow g m:=⟨_,rfl⟩;have aeU:∀N ty,(Builtin.clear_ #[200] ty #[.slice (some (K g (L+1))) (j.length-(L+1)) N]).run prog v=.ok (.tuple #[]) q:=fun N ty=>by
  rw[t,F];exact aeV v 200 101 ty (.pointer none) underlying200 VO rfl rfl g (L+1) (j.length-(L+1)) N (by omega) r 101 P (by omega)
 have O8:q.heap[g]?=some (.cells m 101 (0,0)):=by rw[t];exact setRow_heap _ _ r m _ _ P
 have Q:∀k,k≠g->q.heap[k]?=v.heap[k]?:=fun k I=>by rw[t];exact setRow_other _ _ k m I
 have VQ:m.size=c:=by rw[F];simp;omega
 have VR:m.toList.take (L+1)=(j.take (L+1)).flatMap iD:=by
  have aj:r.toList.take (L+1)=(j.take (L+1)).flatMap iD:=by
   have ct:j.flatMap iD=(j.take (L+1)).flatMap iD++(j.drop (L+1)).flatMap iD:=by rw[<-apt,aqk]
   have ay:((j.take (L+1)).flatMap iD).length=L+1:=by rw[qF iD 1 (fun _=>rfl),ao7];omega
   have :=congrArg (List.take (L+1)) VP;rw[aqs,ct]at this;rw[show min (L+1) j.length=L+1 by omega]at this;rw[this];rw[ap3 (by rw[ay];exact aoP _),apc (by rw[ay];exact aoP _)]
  rw[F];simp only[apf];rw[ap3 (by rw[ao7];simp;omega),aqs,Nat.min_self];exact aj
 have tQ:aP (fun k=>k=a\/(Value.slice (some (H g)) j.length c).ownBlock=some k) w q:=by
  refine(aP.cQ x).trans ⟨by rw[t];rfl,by rw[t];rfl,by rw[t];rfl,by rw[t,setRow_size];exact aoP _,fun k _ I=>Q k fun f=>I (.inr (by rw[f];rfl))⟩
 have d3':q.cell? (K a 3)=some (.slice (some (H g)) j.length c):=by
  rw[apW (w:=v) (Q a (ao5 E))];exact d3
 have dL':q.cell? (K g L)=some (Z d):=by
  have :m[L]?=some (Z d):=by
   have h1:(m.toList.take (L+1))[L]?=r.toList[L]?:=by
    rw[F];simp only[apf];rw[ap3 (by rw[ao7];simp;omega),aqs,Nat.min_self,aql,if_pos (by omega)]
   have h2:(m.toList.take (L+1))[L]?=m[L]?:=by rw[aql,if_pos (by omega)];simp
   rw[<-h2,h1];have :=K5;rw[cell_of_row v g L r _ _ P]at this;simpa using this
  rw[cell_of_row q g L m _ _ O8];exact this
 have hL0:(0:Int)<=(L:Int):=ao0 _;have VS:(L:Int)+1<=(j.length:Int):=by omega
 have Hk:¬(c=L+1):=by omega
 have AR:q.heap[a]?=_:=(Q a (ao5 E)).trans (bj n x);have mM:=cS AR 3;have dj:=aa (fun W (aF:aP (fun k=>k=a\/(Value.slice (some (H g)) j.length c).ownBlock=some k) w W)=>OK (ao.kept aF (fun k f=>by
  rcases f with rfl|f
  ·exact⟨_,_,_,aT.o,by decide⟩
  ·cases f
   exact⟨_,_,_,y,by decide⟩)))
 have j1:=aa (show aP (fun k=>k=a\/(Value.slice (some (H g)) j.length c).ownBlock=some k) w (q.setCell (K a 3) (.slice (some (H g)) (L+1) c)) from tQ.trans (aP.lf _ (.inl rfl)));have cz:=aa (OW (u:=.slice (some (H g)) (L+1) c) AR);have dD:=aa (show(q.setCell (K a 3) (.slice (some (H g)) (L+1) c)).heap[g]?=some (.cells m 101 (0,0)) by rw[dI E];exact O8);have aw:(q.setCell (K a 3) (.slice (some (H g)) (L+1) c)).cell? (K g L)=some (Z d):=by
  rw[apW (w:=q) (dI E)];exact dL'
 have E4:=aa (And.intro VQ VR);have HGH:=aa E;have aeX:L+1<=c:=by omega
 clear x bV qd n z ao AR t F VQ VR tQ Q O8 P gv VP y K5;go_wp2_with (first
  |(go_at_call 213;refine(dj.o _ j1.o).mono ?_;rintro f w3 ⟨⟨s,B,C,rfl,xM,AU,AV,AW,AX⟩,a8⟩;have zh:=aa xM;have bK:=aa a8;have R:=aa (And.intro AU (And.intro AV (And.intro AW AX)));have U:=aa (bj cz.o a8);have zi:=cS U.o 4;have dC:=(ga U.o).2.2.2.2;clear xM a8 AU AV AW AX))
 have mm:=aa (bj dD.o bK.o);have gn:=aa (VN (u:=Z s) U.o);have sK:=aa (zh.o.kept (aP.lf (S:=fun k=>k=a\/(Value.slice (some (H g)) j.length c).ownBlock=some k) (w:=w3) (g:=a) (o:=4) (Z s) (.inl rfl)) (fun k f=>by
  rcases f with rfl|f
  ·exact⟨_,_,_,U.o,by decide⟩
  ·cases f
   exact⟨_,_,_,mm.o,by decide⟩))
 have AF:=aa ((j1.o.trans (aP.cQ bK.o)).trans (aP.lf (S:=fun k=>k=a\/(Value.slice (some (H g)) j.length c).ownBlock=some k) (w:=w3) (g:=a) (o:=4) (Z s) (.inl rfl)));have O6:=aa (O5 (su:=su) (sp:=sp) gn.o L (by omega) ad uV);refine O6.o.mono ?_;rintro f w5 ⟨rfl,qS⟩;have X:=aa qS;clear qS;go_wp2;go_ret
 have hsz:=j1.o.size;have O9:w5.heap[g]?=some (.cells m 101 (0,0)):=bj (w:=w3.setCell (K a 4) (Z s)) ((dI HGH.o).trans mm.o) X.o;refine⟨g,c,s,B,C,rfl,rfl,bj gn.o X.o,?_,sK.o.af X.o,⟨aoS hsz R.o.1,aoS hsz R.o.2.1,aoS hsz R.o.2.2.1,R.o.2.2.2⟩,AF.o.trans (aP.cQ X.o)⟩;have hlen:(j.take (L+1)).length=L+1:=by rw[ao7];omega
 unfold tP;rw[hlen];exact⟨by rw[qF iD 1 (fun _=>rfl),hlen],.inr ⟨g,c,m,rfl,aoR _,O9,aeX,by unfold maxLen;omega,by rw[E4.o.1];omega,by rw[aqf];exact E4.o.2⟩⟩
theorem rL.kept{S w i q}(h:rL w b q)(m:aP S w i)(n:∀k,S k->∃b t f,w.heap[k]?=some (.cells b t f)/\t≠36):rL i b q:=by
 have d:∀s c,er w s c->er i s c:=fun s c d=>aeR d m (fun g b f p r=>by
  obtain⟨z,t,B,u,v⟩:=n g r;exact v (bz u p))
 rcases q with l|⟨x,a⟩|⟨o,y,x,C,c⟩|⟨o,y,x,c⟩
 ·exact h
 ·exact h
 ·obtain⟨s,e,j⟩:=h;exact⟨s,e,d _ _ j⟩
 ·obtain⟨s,e,j⟩:=h;exact⟨s,e,d _ _ j⟩
end
end Go.Proofs.YtnkpogjiiohapaaGreatDoor
