/- What the library's functions answer, laid over this program by the kit's own command in its plain mode; what is not used is left out. -/
import Derived.Shelf.Strings.Builder1
import Derived.Shelf.Strings.Builder2
import Derived.Shelf.Small.Utf8
import Derived.Shelf.Small.Bits
import Derived.Shelf.Small.Strs
import Derived.Shelf.Strings.BuilderF
import Derived.Shelf.Strings.BuilderK
import Derived.Shelf.Strings.Builder2Cap
import Derived.Shelf.Strconv.Itoa0
import Derived.Shelf.Strings.Search1
import Derived.Shelf.Sort.Plain
import Derived.Shelf.Strings.Prefix
import Derived.Shelf.Strings.Runes
import Derived.Shelf.Strings.IndexAny
import Derived.Shelf.Strings.AsciiSet
import Derived.Shelf.Strings.IndexAnyAll
import Derived.Shelf.Bits.Mul64
import Derived.Shelf.Strings.Repeat
import Derived.Shelf.Strings.BuilderCap
import Derived.Shelf.Slices.CompactS
import Derived.Shelf.Slices.Cells
import Derived.Shelf.Slices.In.SortNone
import Derived.Test.YtchcmhodnkgojaaGreatProg
namespace Go.Proofs.Tryz
open Go.Shelf
open Go.RowKit in
def lays169_ren:Go.Shelf.Ren:=⟨λ|169=>87|n=>n,λ|70=>144|9=>9|0=>0|72=>146|37=>85|127=>211|3=>3|5=>5|n=>n,λ|n=>n⟩
theorem lays169:Go.Proofs.Lays.n169 prog lays169_ren:={mixed:=by kernel_rfl,f169:=func87.trans (congrArg some (by kernel_rfl)),t0:=underlying0,a0:=isAgg0,z0:=sizeOf0,v0:=zeroValue0,t3:=underlying3,a3:=isAgg3,z3:=sizeOf3,v3:=zeroValue3,t9:=underlying9,a9:=isAgg9,z9:=sizeOf9,v9:=zeroValue9,t37:=underlying85,a37:=isAgg85,z37:=sizeOf85,v37:=zeroValue85,t70:=underlying144,a70:=isAgg144,z70:=sizeOf144,v70:=zeroValue144,t72:=underlying146,a72:=isAgg146,z72:=sizeOf146,v72:=zeroValue146,t127:=underlying211,a127:=isAgg211,z127:=sizeOf211,v127:=zeroValue211}
theorem Builder_Extra_169:Builder.Extra prog lays169_ren:={sizeBuilder:=by kernel_rfl,liesBuilder:=by kernel_rfl,t5:=underlying5,a5:=isAgg5,z5:=sizeOf5,v5:=zeroValue5,infoByte:=by kernel_rfl,cellsByte:=by kernel_rfl,sizeByte:=by kernel_rfl,neB5:=by decide}
open Go.RowKit in
theorem Builder_String_any (B b:Nat)(l:List UInt8)(w:World)(h:Lib.IsBuilder 146 5 B b (Lib.byteCells l) w)(hBw:B<=w.heap.size):
  Calls prog 87 #[.pointer (some ⟨b,0,none⟩)] w λe w'=>e= .returned (.string ⟨l.toArray⟩)/\Below B w w':=Any.Builder_String_any lays169 Builder_Extra_169 B b l w h hBw
open Go.RowKit in
def lays137_ren:Go.Shelf.Ren:=⟨λ|137=>139|217=>180|266=>205|n=>n,λ|9=>9|5=>5|3=>3|n=>n,λ|n=>n⟩
theorem lays137:Go.Proofs.Lays.n137 prog lays137_ren:={mixed:=by kernel_rfl,f137:=func139.trans (congrArg some (by kernel_rfl)),f217:=func180.trans (congrArg some (by kernel_rfl)),f266:=func205.trans (congrArg some (by kernel_rfl)),t3:=underlying3,a3:=isAgg3,z3:=sizeOf3,v3:=zeroValue3,t5:=underlying5,a5:=isAgg5,z5:=sizeOf5,v5:=zeroValue5,t9:=underlying9,a9:=isAgg9,z9:=sizeOf9,v9:=zeroValue9}
open Go.RowKit in
theorem strings_IndexByte (s:ByteArray)(c:Int)(w:World):
  Calls prog 139 #[.string s,.int .u8 c] w λe w'=>e= .returned (.int .i64 (Lib.indexByte s.data.toList c.toNat.toUInt8))/\w'=w:=Any.strings_IndexByte lays137 s c w
open Go.RowKit in
open Go.RowKit Go.Lib in
open Go.RowKit Go.Lib in
def lays190_ren:Go.Shelf.Ren:=⟨λ|190=>52|125=>85|258=>84|128=>127|129=>128|302=>118|303=>119|304=>120|305=>121|306=>122|307=>123|308=>124|309=>125|310=>126|333=>155|329=>156|330=>157|334=>158|335=>159|336=>160|344=>192|n=>n,λ|31=>45|9=>9|3=>3|46=>143|0=>0|51=>208|53=>210|4=>4|183=>201|182=>200|131=>165|5=>5|218=>241|222=>245|228=>275|229=>276|n=>n,λ|n=>n⟩
theorem lays190:Go.Proofs.Lays.n190 prog lays190_ren:={mixed:=by kernel_rfl,f125:=func85.trans (congrArg some (by kernel_rfl)),f128:=func127.trans (congrArg some (by kernel_rfl)),f129:=func128.trans (congrArg some (by kernel_rfl)),f190:=func52.trans (congrArg some (by kernel_rfl)),f258:=func84.trans (congrArg some (by kernel_rfl)),f302:=func118.trans (congrArg some (by kernel_rfl)),f303:=func119.trans (congrArg some (by kernel_rfl)),f304:=func120.trans (congrArg some (by kernel_rfl)),f305:=func121.trans (congrArg some (by kernel_rfl)),f306:=func122.trans (congrArg some (by kernel_rfl)),f307:=func123.trans (congrArg some (by kernel_rfl)),f308:=func124.trans (congrArg some (by kernel_rfl)),f309:=func125.trans (congrArg some (by kernel_rfl)),f310:=func126.trans (congrArg some (by kernel_rfl)),f329:=func156.trans (congrArg some (by kernel_rfl)),f330:=func157.trans (congrArg some (by kernel_rfl)),f333:=func155.trans (congrArg some (by kernel_rfl)),f334:=func158.trans (congrArg some (by kernel_rfl)),f335:=func159.trans (congrArg some (by kernel_rfl)),f336:=func160.trans (congrArg some (by kernel_rfl)),f344:=func192.trans (congrArg some (by kernel_rfl)),t0:=underlying0,a0:=isAgg0,z0:=sizeOf0,v0:=zeroValue0,t3:=underlying3,a3:=isAgg3,z3:=sizeOf3,v3:=zeroValue3,t4:=underlying4,a4:=isAgg4,z4:=sizeOf4,v4:=zeroValue4,t5:=underlying5,a5:=isAgg5,z5:=sizeOf5,v5:=zeroValue5,t9:=underlying9,a9:=isAgg9,z9:=sizeOf9,v9:=zeroValue9,t31:=underlying45,a31:=isAgg45,z31:=sizeOf45,v31:=zeroValue45,t46:=underlying143,a46:=isAgg143,z46:=sizeOf143,v46:=zeroValue143,t51:=underlying208,a51:=isAgg208,z51:=sizeOf208,v51:=zeroValue208,t53:=underlying210,a53:=isAgg210,z53:=sizeOf210,v53:=zeroValue210,t131:=underlying165,a131:=isAgg165,z131:=sizeOf165,v131:=zeroValue165,t182:=underlying200,a182:=isAgg200,z182:=sizeOf200,v182:=zeroValue200,t183:=underlying201,a183:=isAgg201,z183:=sizeOf201,v183:=zeroValue201,t218:=underlying241,a218:=isAgg241,z218:=sizeOf241,v218:=zeroValue241,t222:=underlying245,a222:=isAgg245,z222:=sizeOf245,v222:=zeroValue245,t228:=underlying275,a228:=isAgg275,z228:=sizeOf275,v228:=zeroValue275,t229:=underlying276,a229:=isAgg276,z229:=sizeOf276,v229:=zeroValue276}
open Go.Sort Go.RowKit in
theorem slices_Sort_string (blk off cap:Nat)(ss:List (List UInt8))(w:World)(hH:Holds encStr w blk off ss.toArray)(hblk:blk<w.heap.size)(hsz:ss.length<4611686018427387904):
  Calls prog 52 #[.slice (some ⟨blk,off,none⟩) ss.length cap] w λe w'=>
   e= .returned (.tuple #[])/\∃n os,w'=grow (putRow encStr (Sort.ahead w n) blk off (ss.mergeSort λx y=>decide (x<=y)).toArray) os:=Any.slices_Sort_string lays190 blk off cap ss w hH hblk hsz
open Go.RowKit Go.Lib in
open Go.RowKit Go.Lib in
open Go.RowKit Go.Lib in
open Go.RowKit Go.Lib in
def lays153_ren:Go.Shelf.Ren:=⟨λ|153=>140|152=>181|226=>182|227=>183|228=>184|137=>139|119=>206|224=>207|225=>208|217=>180|266=>205|n=>n,λ|9=>9|3=>3|4=>4|5=>5|21=>21|117=>265|116=>264|0=>0|46=>143|124=>289|n=>n,λ|n=>n⟩
theorem lays153:Go.Proofs.Lays.n153 prog lays153_ren:={mixed:=by kernel_rfl,f119:=func206.trans (congrArg some (by kernel_rfl)),f137:=func139.trans (congrArg some (by kernel_rfl)),f152:=func181.trans (congrArg some (by kernel_rfl)),f153:=func140.trans (congrArg some (by kernel_rfl)),f217:=func180.trans (congrArg some (by kernel_rfl)),f224:=func207.trans (congrArg some (by kernel_rfl)),f225:=func208.trans (congrArg some (by kernel_rfl)),f226:=func182.trans (congrArg some (by kernel_rfl)),f227:=func183.trans (congrArg some (by kernel_rfl)),f228:=func184.trans (congrArg some (by kernel_rfl)),f266:=func205.trans (congrArg some (by kernel_rfl)),t0:=underlying0,a0:=isAgg0,z0:=sizeOf0,v0:=zeroValue0,t3:=underlying3,a3:=isAgg3,z3:=sizeOf3,v3:=zeroValue3,t4:=underlying4,a4:=isAgg4,z4:=sizeOf4,v4:=zeroValue4,t5:=underlying5,a5:=isAgg5,z5:=sizeOf5,v5:=zeroValue5,t9:=underlying9,a9:=isAgg9,z9:=sizeOf9,v9:=zeroValue9,t21:=underlying21,a21:=isAgg21,z21:=sizeOf21,v21:=zeroValue21,t46:=underlying143,a46:=isAgg143,z46:=sizeOf143,v46:=zeroValue143,t116:=underlying264,a116:=isAgg264,z116:=sizeOf264,t117:=underlying265,a117:=isAgg265,z117:=sizeOf265,v117:=zeroValue265,t124:=underlying289,a124:=isAgg289,z124:=sizeOf289,v124:=zeroValue289}
open Go.RowKit Go.Lib in
open Go.RowKit Go.Lib in
open Go.RowKit Go.Lib in
open Go.RowKit Go.Lib in
open Go.RowKit Go.Lib in
open Go.RowKit Go.Lib in
open Go.RowKit Go.Lib in
open Go.RowKit Go.Lib in
theorem strings_IndexAny_laid (s chars:ByteArray)(w:World)(hs:s.size<4294967281)(hcs:chars.size<4294967281)(has:∀(j:Nat) b,s.data.toList[j]? =some b->b.toNat<128)(hac:∀(j:Nat) b,chars.data.toList[j]? =some b->b.toNat<128):
  Calls prog 140 #[.string s,.string chars] w λe w'=>e= .returned (.int .i64 (Lib.indexAny s.data.toList chars.data.toList))/\Below w.heap.size w w':=Any.strings_IndexAny_laid lays153 (by kernel_rfl) s chars w hs hcs has hac
open Go.RowKit Go.Lib in
open Go.RowKit Go.Lib in
def lays105_ren:Go.Shelf.Ren:=⟨λ|105=>113|212=>150|99=>151|165=>152|166=>153|170=>154|169=>87|263=>188|264=>189|206=>190|240=>129|241=>191|276=>161|277=>211|n=>n,λ|9=>9|3=>3|4=>4|20=>20|0=>0|46=>143|109=>235|5=>5|72=>146|76=>151|51=>208|146=>271|53=>210|148=>273|70=>144|37=>85|75=>150|127=>211|164=>247|80=>52|n=>n,λ|n=>n⟩
theorem lays105:Go.Proofs.Lays.n105 prog lays105_ren:={mixed:=by kernel_rfl,f99:=func151.trans (congrArg some (by kernel_rfl)),f105:=func113.trans (congrArg some (by kernel_rfl)),f165:=func152.trans (congrArg some (by kernel_rfl)),f166:=func153.trans (congrArg some (by kernel_rfl)),f169:=func87.trans (congrArg some (by kernel_rfl)),f170:=func154.trans (congrArg some (by kernel_rfl)),f206:=func190.trans (congrArg some (by kernel_rfl)),f212:=func150.trans (congrArg some (by kernel_rfl)),f240:=func129.trans (congrArg some (by kernel_rfl)),f241:=func191.trans (congrArg some (by kernel_rfl)),f263:=func188.trans (congrArg some (by kernel_rfl)),f264:=func189.trans (congrArg some (by kernel_rfl)),f276:=func161.trans (congrArg some (by kernel_rfl)),f277:=func211.trans (congrArg some (by kernel_rfl)),t0:=underlying0,a0:=isAgg0,z0:=sizeOf0,v0:=zeroValue0,t3:=underlying3,a3:=isAgg3,z3:=sizeOf3,v3:=zeroValue3,t4:=underlying4,a4:=isAgg4,z4:=sizeOf4,v4:=zeroValue4,t5:=underlying5,a5:=isAgg5,z5:=sizeOf5,v5:=zeroValue5,t9:=underlying9,a9:=isAgg9,z9:=sizeOf9,v9:=zeroValue9,t20:=underlying20,a20:=isAgg20,z20:=sizeOf20,v20:=zeroValue20,t37:=underlying85,a37:=isAgg85,z37:=sizeOf85,v37:=zeroValue85,t46:=underlying143,a46:=isAgg143,z46:=sizeOf143,v46:=zeroValue143,t51:=underlying208,a51:=isAgg208,z51:=sizeOf208,v51:=zeroValue208,t53:=underlying210,a53:=isAgg210,z53:=sizeOf210,v53:=zeroValue210,t70:=underlying144,a70:=isAgg144,z70:=sizeOf144,v70:=zeroValue144,t72:=underlying146,a72:=isAgg146,z72:=sizeOf146,v72:=zeroValue146,t75:=underlying150,a75:=isAgg150,z75:=sizeOf150,v75:=zeroValue150,t76:=underlying151,a76:=isAgg151,z76:=sizeOf151,v76:=zeroValue151,t109:=underlying235,a109:=isAgg235,z109:=sizeOf235,v109:=zeroValue235,t127:=underlying211,a127:=isAgg211,z127:=sizeOf211,v127:=zeroValue211,t146:=underlying271,a146:=isAgg271,z146:=sizeOf271,v146:=zeroValue271,t148:=underlying273,a148:=isAgg273,z148:=sizeOf273,v148:=zeroValue273,t164:=underlying247,a164:=isAgg247,z164:=sizeOf247,v164:=zeroValue247}
theorem Builder_Extra_105:Builder.Extra prog lays105_ren:={sizeBuilder:=by kernel_rfl,liesBuilder:=by kernel_rfl,t5:=underlying5,a5:=isAgg5,z5:=sizeOf5,v5:=zeroValue5,infoByte:=by kernel_rfl,cellsByte:=by kernel_rfl,sizeByte:=by kernel_rfl,neB5:=by decide}
open Go.RowKit Go.Lib in
open Go.RowKit Go.Lib in
open Go.RowKit Go.Lib in
open Go.RowKit Go.Lib in
open Go.RowKit Go.Lib in
open Go.RowKit Go.Lib in
open Go.RowKit Go.Lib in
theorem strings_Repeat (s:ByteArray)(c:Nat)(w:World)(hc:c<=9223372036854775807)(hlen:s.size*c<=140737488355328):
  Calls prog 113 #[.string s,.int .i64 c] w λe w'=>e= .returned (.string ⟨(Lib.repeatL s.data.toList c).toArray⟩)/\Below w.heap.size w w':=Any.strings_Repeat lays105 Builder_Extra_105 s c w hc hlen
def lays194_ren:Go.Shelf.Ren:=⟨λ|194=>107|n=>n,λ|31=>45|9=>9|3=>3|4=>4|0=>0|n=>n,λ|n=>n⟩
theorem lays194:Go.Proofs.Lays.n194 prog lays194_ren:={mixed:=by kernel_rfl,f194:=func107.trans (congrArg some (by kernel_rfl)),t0:=underlying0,a0:=isAgg0,z0:=sizeOf0,v0:=zeroValue0,t3:=underlying3,a3:=isAgg3,z3:=sizeOf3,v3:=zeroValue3,t4:=underlying4,a4:=isAgg4,z4:=sizeOf4,v4:=zeroValue4,t9:=underlying9,a9:=isAgg9,z9:=sizeOf9,v9:=zeroValue9,t31:=underlying45,a31:=isAgg45,z31:=sizeOf45,v31:=zeroValue45}
open Go.RowKit Go.Lib Go.Sort in
open Go.RowKit Go.Lib Go.Sort in
theorem slices_Compact_string (blk off cap:Nat)(zs:List (List UInt8))(w:World)(hH:Holds encStr w blk off zs.toArray)(hsz:zs.length<=9223372036854775807)(hcap:zs.length<=cap):
  Calls prog 107 #[.slice (some ⟨blk,off,none⟩) zs.length cap] w λe w'=>e= .returned (.slice (some ⟨blk,off,none⟩) (Lib.compact zs).length cap)/\∃q,w'=putRow encStr (Sort.ahead w q) blk off (Lib.compact zs++List.replicate (zs.length-(Lib.compact zs).length) []).toArray:=Any.slices_Compact_string lays194 blk off cap zs w hH hsz hcap
open Go.RowKit Go.Lib Go.Sort in
theorem slices_Compact_string_empty (a:Option Addr)(cap:Nat)(w:World):
  Calls prog 107 #[.slice a 0 cap] w λe w'=>e= .returned (.slice a 0 cap)/\w'=w:=Any.slices_Compact_string_empty lays194 a cap w
open Go.RowKit Go.Lib Go.Sort in
open Go.RowKit Go.Sort in
theorem slices_Sort_string_none (p:Option Addr)(cap:Nat)(w:World):
  Calls prog 52 #[.slice p 0 cap] w λe w'=>e= .returned (.tuple #[])/\w'=w:=Any.slices_Sort_string_none lays190 p cap w
end Go.Proofs.Tryz
