/- Our own text. -/
import Derived.Shelf.SlMaps.Clone
import Derived.Test.YtnkpogjiiohapaaGreatDoorA11
set_option linter.unusedSimpArgs false
set_option linter.unusedVariables false
set_option maxRecDepth 1000000
set_option maxHeartbeats 2000000
namespace Go.Proofs.YtnkpogjiiohapaaGreatDoor
open Go.RowKit Tryz
variable {a b:Nat}
theorem afy(b:Nat)(a:Array MapEntry)(c:Nat)(w:World)(d:w.heap[b]?=some (.map a c)):
  O 235 #[.map (some b)] w fun e f=>e=.returned (.map (some w.heap.size))/\f=w.alloc (.map a c):=by
 have g:=fun w=>run_eql_map_nil_sl (P:=prog) w 171 _ _ (some b) underlying171
 go_enter func235,ntmps235;go_wp2;rw[run_callFunc_extern func245 (by kernel_rfl) (by kernel_rfl) (by kernel_rfl) (e:=Extern.MapsClone.clone) (by kernel_rfl),run_maps_clone_sl w 171 d];simp only[Result.andThen];rw[Oper.upon_value];go_wp2;rw[run_typeAssert_map_sl _ 171 _ _ _ _ underlying171];simp only[Result.andThen];rw[Oper.upon_value];go_wp2;go_ret
 exact⟨rfl,rfl⟩
theorem afz(b:Nat)(a:Array MapEntry)(c:Nat)(w:World)(d:w.heap[b]?=some (.map a c)):
  O 236 #[.map (some b)] w fun e f=>e=.returned (.map (some w.heap.size))/\f=w.alloc (.map a c):=by
 have g:=fun w=>run_eql_map_nil_sl (P:=prog) w 172 _ _ (some b) underlying172
 go_enter func236,ntmps236;go_wp2;rw[run_callFunc_extern func245 (by kernel_rfl) (by kernel_rfl) (by kernel_rfl) (e:=Extern.MapsClone.clone) (by kernel_rfl),run_maps_clone_sl w 172 d];simp only[Result.andThen];rw[Oper.upon_value];go_wp2;rw[run_typeAssert_map_sl _ 172 _ _ _ _ underlying172];simp only[Result.andThen];rw[Oper.upon_value];go_wp2;go_ret
 exact⟨rfl,rfl⟩
theorem isMap.LX {κ ν:Type} {d:κ->Value} {e:ν->Value} {w:World} {m:List (κ×ν)} {c:Array MapEntry} (h:isMap d e w b m c a):isMap d e (w.alloc (.map c a)) w.heap.size m c a:=⟨heap_alloc_new w _,h.mG,h.nodup,h.old⟩
theorem PS{w y l m}(h:cz w a b y l m):
  O 213 #[Z a] w fun e z=>(∃n p q,e=.returned (Z n)/\cz z n p q l m/\w.heap.size<=n/\w.heap.size<=p/\w.heap.size<=q/\p≠q)/\J w z:=by
 have B:=aa h;obtain⟨r,s,C⟩:=h.af;obtain⟨t,u,D⟩:=h.he;have E:=h.bf;have F:=h.a6;have S:=h.lt;have I:=aa C;clear C;have L:=aa D;clear D;have f:=aa (show J w w.drew from(apY _ w).drew);have N:=aa (afy b r s w.drew (I.o.ae f.o).blk);clear h;go_enter func213,ntmps213;go_wp2_with fail
 go_region_with (first
  |(go_at_call 235;refine N.o.mono ?_;rintro e c ⟨rfl,g⟩;have i:J w c:=(by rw[g];exact f.o.alloc f.o.size _);have U:w.heap.size<c.heap.size:=(by rw[g];simp);have P:=aa (show isMap c0 pL c w.heap.size l r s from g▸(I.o.ae f.o).LX);clear g;replace E:=ae i E;replace F:=ae i F;have j:=aa i;clear i;have Q:=aa (afz y t u c (L.o.ae j.o).blk))
  |(go_at_call 236;refine Q.o.mono ?_;rintro e d ⟨rfl,k⟩;have M:=aa (show J c d by rw[k];exact(apY _ c).alloc (apX _) _);have W:c.heap.size<d.heap.size:=(by rw[k];simp);have R:=aa (show isMap c0 oY d c.heap.size m t u from k▸(L.o.ae j.o).LX);clear k))
 all_goals(try go_wp2)
 all_goals go_ret
 all_goals
  have v:=(apY d.heap.size d).alloc (apX _) (.cells #[.map (some w.heap.size),.map (some c.heap.size)] 174);have x:J w (d.alloc (.cells #[.map (some w.heap.size),.map (some c.heap.size)] 174)):=(j.o.trans (M.o.mono j.o.size)).trans (v.mono (by omega));exact⟨⟨d.heap.size,w.heap.size,c.heap.size,rfl,⟨bI d _,⟨r,s,(P.o.ae M.o).ae v⟩,⟨t,u,R.o.ae v⟩,(B.o.ae x).hk,(B.o.ae x).aF⟩,by omega,by omega,by omega,by omega⟩,x⟩
theorem afA{w:World}{sp su:Int}{d f:Value}(h:w.heap[a]?=some (.cells #[A sp,A su,d,f,Z b] 204 (0,0))):
  O 85 #[Z a] w fun e g=>e=.returned (Z b)/\J w g:=by
 have ee:w.cell? (K a 4)=some (Z b):=by simp[World.cell?,h]
 have c:=aa (apY w.heap.size w);go_enter func85,ntmps85;go_wp2
 try go_region
 all_goals(try go_wp2)
 all_goals go_ret
 all_goals first |exact⟨rfl,c.o⟩|exact⟨rfl,c.o.drew⟩
def vx (a b:Int):Int:=if a<b then -1 else if b<a then 1 else 0
def H2 (a b:Int):Int:=if a≠0 then a else b
def nV (a b:PId):Int:=H2 (vx a.1 b.1) (vx a.2 b.2)
theorem PT(a b:Int)(w:World):O 166 #[A a,A b] w fun e f=>e=.returned (A (vx a b))/\f=w:=by
 unfold vx;by_cases c:a<b
 ·go_enter func166,ntmps166;go_wp2;go_ret
  simp[c]
 by_cases d:b<a
 ·go_enter func166,ntmps166;go_wp2;go_ret
  simp[c,d]
 go_enter func166,ntmps166;go_wp2;go_ret
 simp[c,d]
theorem PU{w:World}{g:Nat}{a b:Int}(j:w.cell? (H g)=some (A a))(k:w.cell? (K g 1)=some (A b)):
  O 165 #[.slice (some (H g)) 2 2] w fun e f=>e=.returned (A (H2 a b))/\f=w:=by
 unfold H2;go_enter func165,ntmps165;go_wp2;go_loopw [8] (fun i wr=>wr=w/\(i=A 0\/(i=A 1/\a=0)\/(i=A 2/\a=0/\b=0))) (fun i _=>2-(intOf i).toNat)
 case atStart=>exact⟨rfl,.inl rfl⟩
 case round=>
  obtain⟨rfl,rfl|⟨rfl,d⟩|⟨rfl,d,h⟩⟩:=hrel
  ·by_cases c:a=0
   ·subst c;go_wp2;go_roundw
    case rel=>simp
    case measure=>simp[intOf]
   go_wp2;go_ret
   simp[c]
  ·subst d;by_cases c:b=0
   ·subst c;go_wp2;go_roundw
    case rel=>simp
    case measure=>simp[intOf]
   go_wp2;go_ret
   simp
  subst d;subst h;go_wp2;go_ret
  simp
end Go.Proofs.YtnkpogjiiohapaaGreatDoor
