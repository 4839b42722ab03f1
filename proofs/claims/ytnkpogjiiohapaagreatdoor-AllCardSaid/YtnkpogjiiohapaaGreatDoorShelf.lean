/- The shelf's contracts (the kit's command prints them), made small. -/
import Derived.Shelf.Strings.Builder1
import Derived.Shelf.Strings.Builder2
import Derived.Shelf.Strings.OnBuilder
import Derived.Shelf.Small.Bits
import Derived.Shelf.Small.Wraps
import Derived.Shelf.Strconv.Itoa0
import Derived.Shelf.Strconv.Itoa1
import Derived.Shelf.LaysM
import Derived.Shelf.Strconv.Itoa2
import Derived.Shelf.Strconv.Itoa3
import Derived.Shelf.Sort.Plain
import Derived.Shelf.Slices.In.SortNone
import Derived.Ground.SlgnProg
import Derived.Shelf.SlicesE.Clone
import Derived.Test.YtnkpogjiiohapaaGreatDoorProg
namespace Go.Proofs
open Go.Shelf Tryz
theorem Tryz.Tr{α:Type}{a:Option α}{b c:α}(h:a=some b)(e:b=c):a=some c:=h.trans (congrArg some e)
def Tryz.lays156_ren:Ren:=⟨fun|156=>168|165=>185|166=>186|169=>187|240=>207|241=>208|276=>222|277=>223|n=>n,fun|31=>43|9=>9|3=>3|4=>4|0=>0|20=>20|72=>291|76=>295|70=>288|37=>289|75=>294|127=>316|164=>328|5=>5|80=>121|n=>n,fun|n=>n⟩
theorem Tryz.lays156:Lays.n156 prog lays156_ren:={
 mixed:=by kernel_rfl
 f156:=Tr func168 (by kernel_rfl)
 f165:=Tr func185 (by kernel_rfl)
 f166:=Tr func186 (by kernel_rfl)
 f169:=Tr func187 (by kernel_rfl)
 f240:=Tr func207 (by kernel_rfl)
 f241:=Tr func208 (by kernel_rfl)
 f276:=Tr func222 (by kernel_rfl)
 f277:=Tr func223 (by kernel_rfl)
 t0:=underlying0
 a0:=isAgg0
 z0:=sizeOf0
 v0:=zeroValue0
 t3:=underlying3
 a3:=isAgg3
 z3:=sizeOf3
 v3:=zeroValue3
 t4:=underlying4
 a4:=isAgg4
 z4:=sizeOf4
 v4:=zeroValue4
 t9:=underlying9
 a9:=isAgg9
 z9:=sizeOf9
 v9:=zeroValue9
 t20:=underlying20
 a20:=isAgg20
 z20:=sizeOf20
 v20:=zeroValue20
 t31:=underlying43
 a31:=isAgg43
 z31:=sizeOf43
 v31:=zeroValue43
 t37:=underlying289
 a37:=isAgg289
 z37:=sizeOf289
 v37:=zeroValue289
 t70:=underlying288
 a70:=isAgg288
 z70:=sizeOf288
 v70:=zeroValue288
 t72:=underlying291
 a72:=isAgg291
 z72:=sizeOf291
 v72:=zeroValue291
 t75:=underlying294
 a75:=isAgg294
 z75:=sizeOf294
 v75:=zeroValue294
 t76:=underlying295
 a76:=isAgg295
 z76:=sizeOf295
 v76:=zeroValue295
 t127:=underlying316
 a127:=isAgg316
 z127:=sizeOf316
 v127:=zeroValue316
 t164:=underlying328
 a164:=isAgg328
 z164:=sizeOf328
 v164:=zeroValue328 }
theorem Tryz.Builder_Extra_156:Builder.Extra prog lays156_ren:={
 sizeBuilder:=by kernel_rfl
 liesBuilder:=by kernel_rfl
 t5:=underlying5
 a5:=isAgg5
 z5:=sizeOf5
 v5:=zeroValue5
 infoByte:=by kernel_rfl
 cellsByte:=by kernel_rfl
 sizeByte:=by kernel_rfl
 neB5:=by decide }
open Go.RowKit in
theorem Tryz.strings_Join_none (a:Option Addr) (c:Nat) (sep:ByteArray) (w:World) :
 Calls prog 168 #[.slice a 0 c,.string sep] w fun e w'=>e = .returned (.string ⟨#[]⟩) ∧ w' = w:=Any.strings_Join_none lays156 Builder_Extra_156 a c sep w
open Go.RowKit in
theorem Tryz.strings_Join (bk o c:Nat) (xs:List ByteArray) (sep:ByteArray) (w:World) (hcells:∀ (j:Nat) x,xs[j]? = some x → w.cell? ⟨bk,o + j,none⟩ = some (.string x)) (hbk:bk < w.heap.size) (hN:xs.length ≤ 140737488355328) (hcap:xs.length ≤ c) (hlen:(Lib.join (xs.map (·.data.toList)) sep.data.toList).length ≤ 140737488355328) :
 Calls prog 168 #[.slice (some ⟨bk,o,none⟩) xs.length c,.string sep] w fun e w'=>e = .returned (.string ⟨(Lib.join (xs.map (·.data.toList)) sep.data.toList).toArray⟩) ∧ Below w.heap.size w w':=Any.strings_Join lays156 Builder_Extra_156 bk o c xs sep w hcells hbk hN hcap hlen
def Tryz.laysM171_ren:Ren:=⟨fun|171=>206|243=>221|246=>239|283=>246|284=>247|285=>248|286=>249|129=>205|317=>252|318=>253|319=>254|320=>255|337=>256|338=>257|n=>n,fun|3=>3|9=>9|2=>2|4=>4|171=>347|0=>0|53=>315|37=>289|5=>5|173=>349|212=>354|51=>313|20=>20|213=>355|46=>286|232=>356|233=>357|n=>n,fun|17=>1|18=>2|19=>3|n=>n⟩
theorem Tryz.laysM171:LaysM.n171 prog laysM171_ren:={
 mixed:=by kernel_rfl
 f129:=Tr func205 (by kernel_rfl)
 f171:=Tr func206 (by kernel_rfl)
 f243:=Tr func221 (by kernel_rfl)
 f246:=Tr func239 (by kernel_rfl)
 f283:=Tr func246 (by kernel_rfl)
 f284:=Tr func247 (by kernel_rfl)
 f285:=Tr func248 (by kernel_rfl)
 f286:=Tr func249 (by kernel_rfl)
 f317:=Tr func252 (by kernel_rfl)
 f318:=Tr func253 (by kernel_rfl)
 f319:=Tr func254 (by kernel_rfl)
 f320:=Tr func255 (by kernel_rfl)
 f337:=Tr func256 (by kernel_rfl)
 f338:=Tr func257 (by kernel_rfl)
 t0:=underlying0
 a0:=isAgg0
 z0:=sizeOf0
 v0:=zeroValue0
 t2:=underlying2
 a2:=isAgg2
 z2:=sizeOf2
 v2:=zeroValue2
 t3:=underlying3
 a3:=isAgg3
 z3:=sizeOf3
 v3:=zeroValue3
 t4:=underlying4
 a4:=isAgg4
 z4:=sizeOf4
 v4:=zeroValue4
 t5:=underlying5
 a5:=isAgg5
 z5:=sizeOf5
 v5:=zeroValue5
 t9:=underlying9
 a9:=isAgg9
 z9:=sizeOf9
 v9:=zeroValue9
 t20:=underlying20
 a20:=isAgg20
 z20:=sizeOf20
 v20:=zeroValue20
 t37:=underlying289
 a37:=isAgg289
 z37:=sizeOf289
 v37:=zeroValue289
 t46:=underlying286
 a46:=isAgg286
 z46:=sizeOf286
 v46:=zeroValue286
 t51:=underlying313
 a51:=isAgg313
 z51:=sizeOf313
 v51:=zeroValue313
 t53:=underlying315
 a53:=isAgg315
 z53:=sizeOf315
 v53:=zeroValue315
 t171:=underlying347
 a171:=isAgg347
 z171:=sizeOf347
 v171:=zeroValue347
 t173:=underlying349
 a173:=isAgg349
 z173:=sizeOf349
 v173:=zeroValue349
 t212:=underlying354
 a212:=isAgg354
 z212:=sizeOf354
 v212:=zeroValue354
 t213:=underlying355
 a213:=isAgg355
 z213:=sizeOf355
 t232:=underlying356
 a232:=isAgg356
 z232:=sizeOf356
 v232:=zeroValue356
 t233:=underlying357
 a233:=isAgg357
 z233:=sizeOf357
 v233:=zeroValue357
 g17:=by kernel_rfl
 g18:=by kernel_rfl
 g19:=by kernel_rfl
 i0:=by kernel_rfl
 i2:=by kernel_rfl
 i3:=by kernel_rfl
 i4:=by kernel_rfl
 i5:=by kernel_rfl
 i9:=by kernel_rfl
 i20:=by kernel_rfl
 i37:=by kernel_rfl
 i46:=by kernel_rfl
 i51:=by kernel_rfl
 i53:=by kernel_rfl
 i171:=by kernel_rfl
 i173:=by kernel_rfl
 i212:=by kernel_rfl
 i232:=by kernel_rfl
 i233:=by kernel_rfl
 m17:=by kernel_rfl
 m18:=by kernel_rfl
 m19:=by kernel_rfl }
open Go.RowKit Go.Sort Go.Lib in
theorem Tryz.strconv_Itoa (n:Int) (h0:-9223372036854775808 ≤ n) (h1:n ≤ 9223372036854775807) (w:World) (htab:Lib.TabIs prog w "internal/strconv.uint64pow10" .u64 Lib.pow10Tab) :
 Calls prog 206 #[.int .i64 n] w fun e w'=>e = .returned (.string ⟨(Lib.itoa n).toArray⟩) ∧ ∃ k os,w' = grow (w.drewN k) os:=Any.strconv_Itoa laysM171 n h0 h1 w htab
def Tryz.lays190_ren:Ren:=⟨fun|190=>188|125=>182|258=>209|128=>204|129=>205|302=>224|303=>225|304=>226|305=>227|306=>228|307=>229|308=>230|309=>231|310=>232|333=>240|329=>217|330=>218|334=>241|335=>242|336=>243|344=>250|n=>n,fun|31=>43|9=>9|3=>3|46=>286|0=>0|51=>313|53=>315|4=>4|183=>306|182=>305|131=>310|5=>5|218=>322|222=>326|228=>341|229=>41|n=>n,fun|n=>n⟩
theorem Tryz.lays190:Lays.n190 prog lays190_ren:={
 mixed:=by kernel_rfl
 f125:=Tr func182 (by kernel_rfl)
 f128:=Tr func204 (by kernel_rfl)
 f129:=Tr func205 (by kernel_rfl)
 f190:=Tr func188 (by kernel_rfl)
 f258:=Tr func209 (by kernel_rfl)
 f302:=Tr func224 (by kernel_rfl)
 f303:=Tr func225 (by kernel_rfl)
 f304:=Tr func226 (by kernel_rfl)
 f305:=Tr func227 (by kernel_rfl)
 f306:=Tr func228 (by kernel_rfl)
 f307:=Tr func229 (by kernel_rfl)
 f308:=Tr func230 (by kernel_rfl)
 f309:=Tr func231 (by kernel_rfl)
 f310:=Tr func232 (by kernel_rfl)
 f329:=Tr func217 (by kernel_rfl)
 f330:=Tr func218 (by kernel_rfl)
 f333:=Tr func240 (by kernel_rfl)
 f334:=Tr func241 (by kernel_rfl)
 f335:=Tr func242 (by kernel_rfl)
 f336:=Tr func243 (by kernel_rfl)
 f344:=Tr func250 (by kernel_rfl)
 t0:=underlying0
 a0:=isAgg0
 z0:=sizeOf0
 v0:=zeroValue0
 t3:=underlying3
 a3:=isAgg3
 z3:=sizeOf3
 v3:=zeroValue3
 t4:=underlying4
 a4:=isAgg4
 z4:=sizeOf4
 v4:=zeroValue4
 t5:=underlying5
 a5:=isAgg5
 z5:=sizeOf5
 v5:=zeroValue5
 t9:=underlying9
 a9:=isAgg9
 z9:=sizeOf9
 v9:=zeroValue9
 t31:=underlying43
 a31:=isAgg43
 z31:=sizeOf43
 v31:=zeroValue43
 t46:=underlying286
 a46:=isAgg286
 z46:=sizeOf286
 v46:=zeroValue286
 t51:=underlying313
 a51:=isAgg313
 z51:=sizeOf313
 v51:=zeroValue313
 t53:=underlying315
 a53:=isAgg315
 z53:=sizeOf315
 v53:=zeroValue315
 t131:=underlying310
 a131:=isAgg310
 z131:=sizeOf310
 v131:=zeroValue310
 t182:=underlying305
 a182:=isAgg305
 z182:=sizeOf305
 v182:=zeroValue305
 t183:=underlying306
 a183:=isAgg306
 z183:=sizeOf306
 v183:=zeroValue306
 t218:=underlying322
 a218:=isAgg322
 z218:=sizeOf322
 v218:=zeroValue322
 t222:=underlying326
 a222:=isAgg326
 z222:=sizeOf326
 v222:=zeroValue326
 t228:=underlying341
 a228:=isAgg341
 z228:=sizeOf341
 v228:=zeroValue341
 t229:=underlying41
 a229:=isAgg41
 z229:=sizeOf41
 v229:=zeroValue41 }
open Go.Sort Go.RowKit in
theorem Tryz.slices_Sort_string (blk off cap:Nat) (ss:List (List UInt8)) (w:World) (hH:Holds encStr w blk off ss.toArray) (hblk:blk < w.heap.size) (hsz:ss.length < 4611686018427387904) :
 Calls prog 188 #[.slice (some ⟨blk,off,none⟩) ss.length cap] w fun e w'=>
 e = .returned (.tuple #[]) ∧ ∃ n os,w' = grow (putRow encStr (Sort.ahead w n) blk off (ss.mergeSort fun x y=>decide (x ≤ y)).toArray) os:=Any.slices_Sort_string lays190 blk off cap ss w hH hblk hsz
open Go.RowKit Go.Sort in
theorem Tryz.slices_Sort_string_none (p:Option Addr) (cap:Nat) (w:World) :
 Calls prog 188 #[.slice p 0 cap] w fun e w'=>e = .returned (.tuple #[]) ∧ w' = w:=Any.slices_Sort_string_none lays190 p cap w
end Go.Proofs
