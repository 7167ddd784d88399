import Derived.Ground.NamesProg
import Derived.Shelf.Strings.SlTrimAscii
import Derived.Shelf.Strings.Prefix
import Derived.Shelf.Strconv.AtoiAll
import Derived.Shelf.Strconv.Itoa3
import Derived.Shelf.Strings.OnBuilder
import Derived.Test.YthmlndmlnlfhnaaGreatDoorProg
import Derived.Test.YthmlndmlnlfhnaaGreatDoorChecked
import Derived.Shelf.Strconv.ErrVarAll
import Derived.Lib.AtoiErrMem
import Derived.Lib.AppendIntMem
import Derived.Lib.AtoiAllCases
import Derived.Test.YthmlndmlnlfhnaaGreatDoorKeecd1919
set_option maxRecDepth 100000
set_option maxHeartbeats 16000000
namespace Go.Proofs
open Go.Shelf
def Tryz.trimLeft_ren:Go.Shelf.Ren:=⟨fun | 161=>176 | 231=>197 | 227=>198 | 233=>199 | 235=>200 | 228=>220 | 197=>221 | 151=>222 | 260=>236 | 152=>237 | 137=>256 | 119=>257 | 224=>258 | 225=>259 | 217=>269 | 266=>271 | n=>n,fun | 9=>9 | 4=>4 | 3=>3 | 5=>5 | 117=>249 | 116=>248 | 0=>0 | 124=>252 | 105=>266 | 21=>21 | 119=>306 | 46=>208 | 139=>309 | 138=>308 | n=>n,fun | 3=>5 | 4=>6 | n=>n⟩
theorem Tryz.trimLeft:Go.Proofs.Lays.n161 Tryz.prog Tryz.trimLeft_ren:={
 mixed:=by kernel_rfl
 f119:=Tryz.func257.trans (congrArg some (by kernel_rfl))
 f137:=Tryz.func256.trans (congrArg some (by kernel_rfl))
 f151:=Tryz.func222.trans (congrArg some (by kernel_rfl))
 f152:=Tryz.func237.trans (congrArg some (by kernel_rfl))
 f161:=Tryz.func176.trans (congrArg some (by kernel_rfl))
 f197:=Tryz.func221.trans (congrArg some (by kernel_rfl))
 f217:=Tryz.func269.trans (congrArg some (by kernel_rfl))
 f224:=Tryz.func258.trans (congrArg some (by kernel_rfl))
 f225:=Tryz.func259.trans (congrArg some (by kernel_rfl))
 f227:=Tryz.func198.trans (congrArg some (by kernel_rfl))
 f228:=Tryz.func220.trans (congrArg some (by kernel_rfl))
 f231:=Tryz.func197.trans (congrArg some (by kernel_rfl))
 f233:=Tryz.func199.trans (congrArg some (by kernel_rfl))
 f235:=Tryz.func200.trans (congrArg some (by kernel_rfl))
 f260:=Tryz.func236.trans (congrArg some (by kernel_rfl))
 f266:=Tryz.func271.trans (congrArg some (by kernel_rfl))
 t0:=Tryz.underlying0
 a0:=Tryz.isAgg0
 z0:=Tryz.sizeOf0
 v0:=Tryz.zeroValue0
 t3:=Tryz.underlying3
 a3:=Tryz.isAgg3
 z3:=Tryz.sizeOf3
 v3:=Tryz.zeroValue3
 t4:=Tryz.underlying4
 a4:=Tryz.isAgg4
 z4:=Tryz.sizeOf4
 v4:=Tryz.zeroValue4
 t5:=Tryz.underlying5
 a5:=Tryz.isAgg5
 z5:=Tryz.sizeOf5
 v5:=Tryz.zeroValue5
 t9:=Tryz.underlying9
 a9:=Tryz.isAgg9
 z9:=Tryz.sizeOf9
 v9:=Tryz.zeroValue9
 t21:=Tryz.underlying21
 a21:=Tryz.isAgg21
 z21:=Tryz.sizeOf21
 v21:=Tryz.zeroValue21
 t46:=Tryz.underlying208
 a46:=Tryz.isAgg208
 z46:=Tryz.sizeOf208
 v46:=Tryz.zeroValue208
 t105:=Tryz.underlying266
 a105:=Tryz.isAgg266
 z105:=Tryz.sizeOf266
 v105:=Tryz.zeroValue266
 t116:=Tryz.underlying248
 a116:=Tryz.isAgg248
 z116:=Tryz.sizeOf248
 t117:=Tryz.underlying249
 a117:=Tryz.isAgg249
 z117:=Tryz.sizeOf249
 v117:=Tryz.zeroValue249
 t119:=Tryz.underlying306
 a119:=Tryz.isAgg306
 z119:=Tryz.sizeOf306
 t124:=Tryz.underlying252
 a124:=Tryz.isAgg252
 z124:=Tryz.sizeOf252
 v124:=Tryz.zeroValue252
 t138:=Tryz.underlying308
 a138:=Tryz.isAgg308
 z138:=Tryz.sizeOf308
 v138:=Tryz.zeroValue308
 t139:=Tryz.underlying309
 a139:=Tryz.isAgg309
 z139:=Tryz.sizeOf309
 v139:=Tryz.zeroValue309
 g3:=by kernel_rfl
 g4:=by kernel_rfl }
def Tryz.hasPrefix_ren:Go.Shelf.Ren:=⟨fun | 99=>177 | 206=>201 | n=>n,fun | 9=>9 | 4=>4 | 3=>3 | n=>n,fun | n=>n⟩
theorem Tryz.hasPrefix:Go.Proofs.Lays.n99 Tryz.prog Tryz.hasPrefix_ren:={
 mixed:=by kernel_rfl
 f99:=Tryz.func177.trans (congrArg some (by kernel_rfl))
 f206:=Tryz.func201.trans (congrArg some (by kernel_rfl))
 t3:=Tryz.underlying3
 a3:=Tryz.isAgg3
 z3:=Tryz.sizeOf3
 v3:=Tryz.zeroValue3
 t4:=Tryz.underlying4
 a4:=Tryz.isAgg4
 z4:=Tryz.sizeOf4
 v4:=Tryz.zeroValue4
 t9:=Tryz.underlying9
 a9:=Tryz.isAgg9
 z9:=Tryz.sizeOf9
 v9:=Tryz.zeroValue9 }
def Tryz.atoi_ren:Go.Shelf.Ren:=⟨fun | 172=>178 | 244=>202 | 245=>203 | 247=>223 | 279=>224 | 280=>225 | 281=>226 | 282=>227 | 287=>238 | 316=>239 | 171=>152 | 205=>240 | 321=>260 | 322=>261 | 243=>183 | 246=>207 | 283=>229 | 284=>230 | 285=>231 | 286=>232 | 129=>243 | 317=>242 | 318=>244 | 319=>245 | 320=>246 | 337=>262 | 338=>263 | n=>n,fun | 9=>9 | 3=>3 | 75=>143 | 76=>144 | 4=>4 | 5=>5 | 167=>269 | 37=>138 | 0=>0 | 85=>270 | 2=>2 | 168=>272 | 53=>277 | 175=>286 | 46=>208 | 210=>290 | 127=>189 | 145=>315 | 143=>313 | 21=>21 | 171=>276 | 173=>280 | 212=>295 | 51=>296 | 20=>20 | 213=>297 | 232=>322 | 233=>323 | 80=>146 | n=>n,fun | 15=>2 | 16=>3 | 17=>4 | 18=>7 | 19=>8 | n=>n⟩
theorem Tryz.atoi:Go.Proofs.LaysC.n172 Tryz.prog Tryz.atoi_ren:={
 mixed:=by kernel_rfl
 f129:=Tryz.func243.trans (congrArg some (by kernel_rfl))
 f171:=Tryz.func152.trans (congrArg some (by kernel_rfl))
 f172:=Tryz.func178.trans (congrArg some (by kernel_rfl))
 f205:=Tryz.func240.trans (congrArg some (by kernel_rfl))
 f243:=Tryz.func183.trans (congrArg some (by kernel_rfl))
 f244:=Tryz.func202.trans (congrArg some (by kernel_rfl))
 f245:=Tryz.func203.trans (congrArg some (by kernel_rfl))
 f246:=Tryz.func207.trans (congrArg some (by kernel_rfl))
 f247:=Tryz.func223.trans (congrArg some (by kernel_rfl))
 f279:=Tryz.func224.trans (congrArg some (by kernel_rfl))
 f280:=Tryz.func225.trans (congrArg some (by kernel_rfl))
 f281:=Tryz.func226.trans (congrArg some (by kernel_rfl))
 f282:=Tryz.func227.trans (congrArg some (by kernel_rfl))
 f283:=Tryz.func229.trans (congrArg some (by kernel_rfl))
 f284:=Tryz.func230.trans (congrArg some (by kernel_rfl))
 f285:=Tryz.func231.trans (congrArg some (by kernel_rfl))
 f286:=Tryz.func232.trans (congrArg some (by kernel_rfl))
 f287:=Tryz.func238.trans (congrArg some (by kernel_rfl))
 f316:=Tryz.func239.trans (congrArg some (by kernel_rfl))
 f317:=Tryz.func242.trans (congrArg some (by kernel_rfl))
 f318:=Tryz.func244.trans (congrArg some (by kernel_rfl))
 f319:=Tryz.func245.trans (congrArg some (by kernel_rfl))
 f320:=Tryz.func246.trans (congrArg some (by kernel_rfl))
 f321:=Tryz.func260.trans (congrArg some (by kernel_rfl))
 f322:=Tryz.func261.trans (congrArg some (by kernel_rfl))
 f337:=Tryz.func262.trans (congrArg some (by kernel_rfl))
 f338:=Tryz.func263.trans (congrArg some (by kernel_rfl))
 t0:=Tryz.underlying0
 a0:=Tryz.isAgg0
 z0:=Tryz.sizeOf0
 v0:=Tryz.zeroValue0
 t2:=Tryz.underlying2
 a2:=Tryz.isAgg2
 z2:=Tryz.sizeOf2
 v2:=Tryz.zeroValue2
 t3:=Tryz.underlying3
 a3:=Tryz.isAgg3
 z3:=Tryz.sizeOf3
 v3:=Tryz.zeroValue3
 t4:=Tryz.underlying4
 a4:=Tryz.isAgg4
 z4:=Tryz.sizeOf4
 v4:=Tryz.zeroValue4
 t5:=Tryz.underlying5
 a5:=Tryz.isAgg5
 z5:=Tryz.sizeOf5
 v5:=Tryz.zeroValue5
 t9:=Tryz.underlying9
 a9:=Tryz.isAgg9
 z9:=Tryz.sizeOf9
 v9:=Tryz.zeroValue9
 t20:=Tryz.underlying20
 a20:=Tryz.isAgg20
 z20:=Tryz.sizeOf20
 v20:=Tryz.zeroValue20
 t21:=Tryz.underlying21
 a21:=Tryz.isAgg21
 z21:=Tryz.sizeOf21
 v21:=Tryz.zeroValue21
 t37:=Tryz.underlying138
 a37:=Tryz.isAgg138
 z37:=Tryz.sizeOf138
 v37:=Tryz.zeroValue138
 t46:=Tryz.underlying208
 a46:=Tryz.isAgg208
 z46:=Tryz.sizeOf208
 v46:=Tryz.zeroValue208
 t51:=Tryz.underlying296
 a51:=Tryz.isAgg296
 z51:=Tryz.sizeOf296
 v51:=Tryz.zeroValue296
 t53:=Tryz.underlying277
 a53:=Tryz.isAgg277
 z53:=Tryz.sizeOf277
 v53:=Tryz.zeroValue277
 t75:=Tryz.underlying143
 a75:=Tryz.isAgg143
 z75:=Tryz.sizeOf143
 v75:=Tryz.zeroValue143
 t76:=Tryz.underlying144
 a76:=Tryz.isAgg144
 z76:=Tryz.sizeOf144
 v76:=Tryz.zeroValue144
 t85:=Tryz.underlying270
 a85:=Tryz.isAgg270
 z85:=Tryz.sizeOf270
 v85:=Tryz.zeroValue270
 t127:=Tryz.underlying189
 a127:=Tryz.isAgg189
 z127:=Tryz.sizeOf189
 v127:=Tryz.zeroValue189
 t143:=Tryz.underlying313
 a143:=Tryz.isAgg313
 z143:=Tryz.sizeOf313
 v143:=Tryz.zeroValue313
 t145:=Tryz.underlying315
 a145:=Tryz.isAgg315
 z145:=Tryz.sizeOf315
 v145:=Tryz.zeroValue315
 t167:=Tryz.underlying269
 a167:=Tryz.isAgg269
 z167:=Tryz.sizeOf269
 v167:=Tryz.zeroValue269
 t168:=Tryz.underlying272
 a168:=Tryz.isAgg272
 z168:=Tryz.sizeOf272
 v168:=Tryz.zeroValue272
 t171:=Tryz.underlying276
 a171:=Tryz.isAgg276
 z171:=Tryz.sizeOf276
 v171:=Tryz.zeroValue276
 t173:=Tryz.underlying280
 a173:=Tryz.isAgg280
 z173:=Tryz.sizeOf280
 v173:=Tryz.zeroValue280
 t175:=Tryz.underlying286
 a175:=Tryz.isAgg286
 z175:=Tryz.sizeOf286
 v175:=Tryz.zeroValue286
 t210:=Tryz.underlying290
 a210:=Tryz.isAgg290
 z210:=Tryz.sizeOf290
 v210:=Tryz.zeroValue290
 t212:=Tryz.underlying295
 a212:=Tryz.isAgg295
 z212:=Tryz.sizeOf295
 v212:=Tryz.zeroValue295
 t213:=Tryz.underlying297
 a213:=Tryz.isAgg297
 z213:=Tryz.sizeOf297
 t232:=Tryz.underlying322
 a232:=Tryz.isAgg322
 z232:=Tryz.sizeOf322
 v232:=Tryz.zeroValue322
 t233:=Tryz.underlying323
 a233:=Tryz.isAgg323
 z233:=Tryz.sizeOf323
 v233:=Tryz.zeroValue323
 g15:=by kernel_rfl
 g16:=by kernel_rfl
 g17:=by kernel_rfl
 g18:=by kernel_rfl
 g19:=by kernel_rfl
 t80:=Tryz.underlying146
 a80:=Tryz.isAgg146
 z80:=Tryz.sizeOf146
 v80:=Tryz.zeroValue146
 i0:=by kernel_rfl
 i2:=by kernel_rfl
 i3:=by kernel_rfl
 i4:=by kernel_rfl
 i5:=by kernel_rfl
 i9:=by kernel_rfl
 i20:=by kernel_rfl
 i21:=by kernel_rfl
 i37:=by kernel_rfl
 i46:=by kernel_rfl
 i51:=by kernel_rfl
 i53:=by kernel_rfl
 i75:=by kernel_rfl
 i76:=by kernel_rfl
 i80:=by kernel_rfl
 i85:=by kernel_rfl
 i127:=by kernel_rfl
 i143:=by kernel_rfl
 i145:=by kernel_rfl
 i167:=by kernel_rfl
 i168:=by kernel_rfl
 i171:=by kernel_rfl
 i173:=by kernel_rfl
 i175:=by kernel_rfl
 i210:=by kernel_rfl
 i212:=by kernel_rfl
 i232:=by kernel_rfl
 i233:=by kernel_rfl
 m15:=by kernel_rfl
 m16:=by kernel_rfl
 m17:=by kernel_rfl
 m18:=by kernel_rfl
 m19:=by kernel_rfl
 c0:=by kernel_rfl
 c2:=by kernel_rfl
 c3:=by kernel_rfl
 c4:=by kernel_rfl
 c5:=by kernel_rfl
 c9:=by kernel_rfl
 c20:=by kernel_rfl
 c21:=by kernel_rfl
 c37:=by kernel_rfl
 c46:=by kernel_rfl
 c51:=by kernel_rfl
 c53:=by kernel_rfl
 c75:=by kernel_rfl
 c76:=by kernel_rfl
 c80:=by kernel_rfl
 c85:=by kernel_rfl
 c127:=by kernel_rfl
 c143:=by kernel_rfl
 c145:=by kernel_rfl
 c167:=by kernel_rfl
 c168:=by kernel_rfl
 c171:=by kernel_rfl
 c173:=by kernel_rfl
 c175:=by kernel_rfl
 c210:=by kernel_rfl
 c212:=by kernel_rfl
 c213:=by kernel_rfl
 c232:=by kernel_rfl
 c233:=by kernel_rfl }
def Tryz.itoa_ren:Go.Shelf.Ren:=⟨fun | 171=>152 | 243=>183 | 246=>207 | 283=>229 | 284=>230 | 285=>231 | 286=>232 | 129=>243 | 317=>242 | 318=>244 | 319=>245 | 320=>246 | 337=>262 | 338=>263 | n=>n,fun | 3=>3 | 9=>9 | 2=>2 | 4=>4 | 171=>276 | 0=>0 | 53=>277 | 37=>138 | 5=>5 | 173=>280 | 212=>295 | 51=>296 | 20=>20 | 213=>297 | 46=>208 | 232=>322 | 233=>323 | n=>n,fun | 17=>4 | 18=>7 | 19=>8 | n=>n⟩
theorem Tryz.itoa:Go.Proofs.LaysM.n171 Tryz.prog Tryz.itoa_ren:={
 mixed:=by kernel_rfl
 f129:=Tryz.func243.trans (congrArg some (by kernel_rfl))
 f171:=Tryz.func152.trans (congrArg some (by kernel_rfl))
 f243:=Tryz.func183.trans (congrArg some (by kernel_rfl))
 f246:=Tryz.func207.trans (congrArg some (by kernel_rfl))
 f283:=Tryz.func229.trans (congrArg some (by kernel_rfl))
 f284:=Tryz.func230.trans (congrArg some (by kernel_rfl))
 f285:=Tryz.func231.trans (congrArg some (by kernel_rfl))
 f286:=Tryz.func232.trans (congrArg some (by kernel_rfl))
 f317:=Tryz.func242.trans (congrArg some (by kernel_rfl))
 f318:=Tryz.func244.trans (congrArg some (by kernel_rfl))
 f319:=Tryz.func245.trans (congrArg some (by kernel_rfl))
 f320:=Tryz.func246.trans (congrArg some (by kernel_rfl))
 f337:=Tryz.func262.trans (congrArg some (by kernel_rfl))
 f338:=Tryz.func263.trans (congrArg some (by kernel_rfl))
 t0:=Tryz.underlying0
 a0:=Tryz.isAgg0
 z0:=Tryz.sizeOf0
 v0:=Tryz.zeroValue0
 t2:=Tryz.underlying2
 a2:=Tryz.isAgg2
 z2:=Tryz.sizeOf2
 v2:=Tryz.zeroValue2
 t3:=Tryz.underlying3
 a3:=Tryz.isAgg3
 z3:=Tryz.sizeOf3
 v3:=Tryz.zeroValue3
 t4:=Tryz.underlying4
 a4:=Tryz.isAgg4
 z4:=Tryz.sizeOf4
 v4:=Tryz.zeroValue4
 t5:=Tryz.underlying5
 a5:=Tryz.isAgg5
 z5:=Tryz.sizeOf5
 v5:=Tryz.zeroValue5
 t9:=Tryz.underlying9
 a9:=Tryz.isAgg9
 z9:=Tryz.sizeOf9
 v9:=Tryz.zeroValue9
 t20:=Tryz.underlying20
 a20:=Tryz.isAgg20
 z20:=Tryz.sizeOf20
 v20:=Tryz.zeroValue20
 t37:=Tryz.underlying138
 a37:=Tryz.isAgg138
 z37:=Tryz.sizeOf138
 v37:=Tryz.zeroValue138
 t46:=Tryz.underlying208
 a46:=Tryz.isAgg208
 z46:=Tryz.sizeOf208
 v46:=Tryz.zeroValue208
 t51:=Tryz.underlying296
 a51:=Tryz.isAgg296
 z51:=Tryz.sizeOf296
 v51:=Tryz.zeroValue296
 t53:=Tryz.underlying277
 a53:=Tryz.isAgg277
 z53:=Tryz.sizeOf277
 v53:=Tryz.zeroValue277
 t171:=Tryz.underlying276
 a171:=Tryz.isAgg276
 z171:=Tryz.sizeOf276
 v171:=Tryz.zeroValue276
 t173:=Tryz.underlying280
 a173:=Tryz.isAgg280
 z173:=Tryz.sizeOf280
 v173:=Tryz.zeroValue280
 t212:=Tryz.underlying295
 a212:=Tryz.isAgg295
 z212:=Tryz.sizeOf295
 v212:=Tryz.zeroValue295
 t213:=Tryz.underlying297
 a213:=Tryz.isAgg297
 z213:=Tryz.sizeOf297
 t232:=Tryz.underlying322
 a232:=Tryz.isAgg322
 z232:=Tryz.sizeOf322
 v232:=Tryz.zeroValue322
 t233:=Tryz.underlying323
 a233:=Tryz.isAgg323
 z233:=Tryz.sizeOf323
 v233:=Tryz.zeroValue323
 g17:=by kernel_rfl
 g18:=by kernel_rfl
 g19:=by kernel_rfl
 i0:=by kernel_rfl
 i2:=by kernel_rfl
 i3:=by kernel_rfl
 i4:=by kernel_rfl
 i5:=by kernel_rfl
 i9:=by kernel_rfl
 i20:=by kernel_rfl
 i37:=by kernel_rfl
 i46:=by kernel_rfl
 i51:=by kernel_rfl
 i53:=by kernel_rfl
 i171:=by kernel_rfl
 i173:=by kernel_rfl
 i212:=by kernel_rfl
 i232:=by kernel_rfl
 i233:=by kernel_rfl
 m17:=by kernel_rfl
 m18:=by kernel_rfl
 m19:=by kernel_rfl }
def Tryz.join_ren:Go.Shelf.Ren:=⟨fun | 156=>49 | 165=>78 | 166=>79 | 169=>80 | 240=>121 | 241=>122 | 276=>160 | 277=>161 | n=>n,fun | 31=>39 | 9=>9 | 3=>3 | 4=>4 | 0=>0 | 20=>20 | 72=>140 | 76=>144 | 70=>137 | 37=>138 | 75=>143 | 127=>189 | 164=>221 | 5=>5 | 80=>146 | n=>n,fun | n=>n⟩
theorem Tryz.join:Go.Proofs.Lays.n156 Tryz.prog Tryz.join_ren:={
 mixed:=by kernel_rfl
 f156:=Tryz.func49.trans (congrArg some (by kernel_rfl))
 f165:=Tryz.func78.trans (congrArg some (by kernel_rfl))
 f166:=Tryz.func79.trans (congrArg some (by kernel_rfl))
 f169:=Tryz.func80.trans (congrArg some (by kernel_rfl))
 f240:=Tryz.func121.trans (congrArg some (by kernel_rfl))
 f241:=Tryz.func122.trans (congrArg some (by kernel_rfl))
 f276:=Tryz.func160.trans (congrArg some (by kernel_rfl))
 f277:=Tryz.func161.trans (congrArg some (by kernel_rfl))
 t0:=Tryz.underlying0
 a0:=Tryz.isAgg0
 z0:=Tryz.sizeOf0
 v0:=Tryz.zeroValue0
 t3:=Tryz.underlying3
 a3:=Tryz.isAgg3
 z3:=Tryz.sizeOf3
 v3:=Tryz.zeroValue3
 t4:=Tryz.underlying4
 a4:=Tryz.isAgg4
 z4:=Tryz.sizeOf4
 v4:=Tryz.zeroValue4
 t9:=Tryz.underlying9
 a9:=Tryz.isAgg9
 z9:=Tryz.sizeOf9
 v9:=Tryz.zeroValue9
 t20:=Tryz.underlying20
 a20:=Tryz.isAgg20
 z20:=Tryz.sizeOf20
 v20:=Tryz.zeroValue20
 t31:=Tryz.underlying39
 a31:=Tryz.isAgg39
 z31:=Tryz.sizeOf39
 v31:=Tryz.zeroValue39
 t37:=Tryz.underlying138
 a37:=Tryz.isAgg138
 z37:=Tryz.sizeOf138
 v37:=Tryz.zeroValue138
 t70:=Tryz.underlying137
 a70:=Tryz.isAgg137
 z70:=Tryz.sizeOf137
 v70:=Tryz.zeroValue137
 t72:=Tryz.underlying140
 a72:=Tryz.isAgg140
 z72:=Tryz.sizeOf140
 v72:=Tryz.zeroValue140
 t75:=Tryz.underlying143
 a75:=Tryz.isAgg143
 z75:=Tryz.sizeOf143
 v75:=Tryz.zeroValue143
 t76:=Tryz.underlying144
 a76:=Tryz.isAgg144
 z76:=Tryz.sizeOf144
 v76:=Tryz.zeroValue144
 t127:=Tryz.underlying189
 a127:=Tryz.isAgg189
 z127:=Tryz.sizeOf189
 v127:=Tryz.zeroValue189
 t164:=Tryz.underlying221
 a164:=Tryz.isAgg221
 z164:=Tryz.sizeOf221
 v164:=Tryz.zeroValue221 }
theorem Tryz.joinX:Builder.Extra Tryz.prog Tryz.join_ren:={
 sizeBuilder:=by kernel_rfl
 liesBuilder:=by kernel_rfl
 t5:=by kernel_rfl
 a5:=fun _=>by kernel_rfl
 z5:=fun _=>by kernel_rfl
 v5:=fun _=>by kernel_rfl
 infoByte:=by kernel_rfl
 cellsByte:=by kernel_rfl
 sizeByte:=by kernel_rfl
 neB5:=by decide }
end Go.Proofs
namespace Go.Proofs.YthmlndmlnlfhnaaGreatDoor
open Go.Lib (hid)
open Go.RowKit Go.Shelf
theorem ybk (l:Bs) (w:World) :
  Calls Tryz.prog 176 #[.string (bs l),.string ⟨#[32,10]⟩] w fun e w'=>e = .returned (.string (bs (jau l)))∧Below w.heap.size w w':=by
 have h:=Any.strings_TrimLeft_laid Tryz.trimLeft (by kernel_rfl) (bs l) ⟨#[32,10]⟩ w (by decide) (ascii_of_all (by decide));rw [jdb] at h;exact h
theorem jmp (l m:Bs) (w:World) :
  Calls Tryz.prog 177 #[.string (bs l),.string (bs m)] w fun e w'=>e = .returned (.bool (m.isPrefixOf l))∧w'=w:=by
 have h:=Any.strings_HasPrefix Tryz.hasPrefix (bs l) (bs m) w;rw [jdb,jdb] at h;exact h
theorem yb4 (p:PS) (g:Nat) (w:World) (h:PA w g p) :
  Calls Tryz.prog 137 #[.pointer (some ⟨g,0,none⟩)] w fun e w'=>e = .returned (.tuple #[])∧PA w' g ⟨jau p.rest,p.bad⟩∧w.grownBy w' (some g):=by
 obtain ⟨r,b⟩:=p;have H:=hid h;obtain ⟨hg,c0,c1,f0,f1⟩:=h;simp only at c0 c1;go_enter Tryz.func137,Tryz.ntmps137
 go_wp2_with fail
 refine (ybk r _).mono ?_;rintro e w1 ⟨rfl,hb1⟩;obtain ⟨hg1,d0,d1,e0,e1⟩:=H.out.next hb1;go_wp2;go_end0
 exact ⟨rfl,(H.out.next hb1).set0 _,World.grownBy.trans' (jak hb1) (jcv ..)⟩
theorem jwk (l:Bs) (a b:Nat):(bs l).extract a b=bs ((l.drop a).take (b-a)):=by
 have:=Lib.extract_data (bs l) a b
 rw [jdb] at this;rw [← this,ygm]
theorem jv2 (p:PS) (n:Nat) (g:Nat) (w:World) (h:PA w g p) (hn:n≤p.rest.length) (hs:p.rest.length≤2000) :
  Calls Tryz.prog 138 #[.pointer (some ⟨g,0,none⟩),.int .i64 n] w fun e w'=>e = .returned (.string (bs (p.rest.take n)))∧PA w' g ⟨p.rest.drop n,p.bad⟩∧w.grownBy w' (some g):=by
 obtain ⟨r,b⟩:=p;have H:=hid h;obtain ⟨hg,c0,c1,f0,f1⟩:=h;simp only at c0 c1 hn hs;have hsz:(bs r).size=r.length:=jeq r;go_enter Tryz.func138,Tryz.ntmps138
 go_wp2;go_ret;have e1:(bs r).extract 0 n=bs (r.take n):=by rw [jwk];simp
 have e2:(bs r).extract n r.length=bs (r.drop n):=by rw [jwk,List.take_of_length_le (by simp)]
 rw [e2];refine ⟨?_,H.out.set0 _,jcv ..⟩
 show Ending.returned (.string ((bs r).extract 0 n))=_
 rw [e1]
theorem jpq (sym:Bs) (p:PS) (g:Nat) (w:World) (h:PA w g p) (hs:p.rest.length≤2000) :
  Calls Tryz.prog 144 #[.pointer (some ⟨g,0,none⟩),.string (bs sym)] w fun e w'=>e = .returned (.bool (jat sym p).1)∧PA w' g (jat sym p).2∧w.grownBy w' (some g):=by
 have hlen:=jld p.rest;obtain ⟨r,b⟩:=p;have H:=hid h;have hsz:(bs sym).size=sym.length:=jeq sym;simp only at hs hlen;by_cases hq:sym.isPrefixOf (jau r)=true
 ·have hl:sym.length≤(jau r).length:=(List.isPrefixOf_iff_prefix.1 hq).length_le;have e:jat sym ⟨r,b⟩=(true,⟨(jau r).drop sym.length,b⟩):=by unfold jat;simp only [hq,if_true]
  rw [e];clear e;have HQ:=hid hq;clear hq;go_enter Tryz.func144,Tryz.ntmps144
  go_wp2_with fail
  refine (yb4 ⟨r,b⟩ g _ H.out).mono ?_;rintro e w1 ⟨rfl,h1,hb1⟩;have H1:=hid h1;have B1:=hid hb1;obtain ⟨hg1,d0,d1,e0,e1⟩:=h1;simp only at d0 d1;clear hb1;go_wp2_with fail
  refine (jmp (jau r) sym _).mono ?_;rintro e w2 ⟨rfl,rfl⟩;rw [HQ.out];go_wp2_with fail
  refine (jv2 ⟨jau r,b⟩ sym.length g _ H1.out hl (by simp only;omega)).mono ?_;rintro e w3 ⟨rfl,h3,hb3⟩;go_wp2;go_ret;exact ⟨rfl,h3,World.grownBy.trans' B1.out hb3⟩
 ·have hq':sym.isPrefixOf (jau r)=false:=Bool.eq_false_iff.2 hq;have e:jat sym ⟨r,b⟩=(false,⟨jau r,b⟩):=by unfold jat;simp only [hq'];rfl
  rw [e];clear e hq;have HQ:=hid hq';clear hq';go_enter Tryz.func144,Tryz.ntmps144
  go_wp2_with fail
  refine (yb4 ⟨r,b⟩ g _ H.out).mono ?_;rintro e w1 ⟨rfl,h1,hb1⟩;have H1:=hid h1;have B1:=hid hb1;obtain ⟨hg1,d0,d1,e0,e1⟩:=h1;simp only at d0 d1;clear hb1;go_wp2_with fail
  refine (jmp (jau r) sym _).mono ?_;rintro e w2 ⟨rfl,rfl⟩;rw [HQ.out];go_wp2;go_ret;exact ⟨rfl,H1.out,B1.out⟩
theorem jrw (sym:Bs) (p:PS) (g:Nat) (w:World) (h:PA w g p) (hs:p.rest.length≤2000) :
  Calls Tryz.prog 140 #[.pointer (some ⟨g,0,none⟩),.string (bs sym)] w fun e w'=>e = .returned (.tuple #[])∧PA w' g (jb4 sym p)∧w.grownBy w' (some g):=by
 have H:=hid h;have HB:Hid ((jat sym p).2.bad=p.bad):=rfl;go_enter Tryz.func140,Tryz.ntmps140
 go_wp2_with fail
 refine (jpq sym p g _ H.out hs).mono ?_;rintro e w1 ⟨rfl,h1,hb1⟩;have H1:=hid h1;have B1:=hid hb1;obtain ⟨hg1,d0,d1,e0,e1⟩:=h1;clear hb1;have HE:Hid (jb4 sym p = ⟨(jat sym p).2.rest,p.bad || !(jat sym p).1⟩):=rfl;cases hq:(jat sym p).1
 ·have HQ:=hid hq;clear hq;go_wp2
  first | go_end0 | refine bodyPost_ret (results_none rfl _ _ _) rfl ?_
  refine ⟨rfl,?_,World.grownBy.trans' B1.out (jcv ..)⟩;have:=H1.out.set1 true
  rw [HE.out,HQ.out];simpa using this
 ·have HQ:=hid hq;clear hq;go_wp2
  first | go_end0 | refine bodyPost_ret (results_none rfl _ _ _) rfl ?_
  refine ⟨rfl,?_,B1.out⟩;rw [HE.out,HQ.out];have:=H1.out
  rw [← HB.out];simpa using this
theorem ylw (p:PS) (g:Nat) (w:World) (h:PA w g p) :
  Calls Tryz.prog 95 #[.pointer (some ⟨g,0,none⟩)] w fun e w'=>e = .returned (.bool (jni p))∧PA w' g ⟨jau p.rest,p.bad⟩∧w.grownBy w' (some g):=by
 obtain ⟨r,b⟩:=p;have H:=hid h;have HE:Hid (jni ⟨r,b⟩=(!b && (jau r).isEmpty)):=rfl;go_enter Tryz.func95,Tryz.ntmps95
 go_wp2_with fail
 refine (yb4 ⟨r,b⟩ g _ H.out).mono ?_;rintro e w1 ⟨rfl,h1,hb1⟩;have H1:=hid h1;have B1:=hid hb1;obtain ⟨hg1,d0,d1,e0,e1⟩:=h1;simp only at d0 d1;clear hb1;cases b
 ·by_cases h0:jau r = []
  ·have hb:bs (jau r) = ⟨#[]⟩:=by rw [h0];rfl
   have HX:Hid ((jau r).isEmpty=true):=by show _=true;rw [h0];rfl
   rw [hb] at d0;go_wp2;go_ret;refine ⟨jad ?_,H1.out,B1.out⟩;rw [HE.out,HX.out];rfl
  ·have hx:((bs (jau r)).toList == [])=false:=by
    rw [ByteArray.toList_eq,jdb];cases h:jau r with
    | nil=>exact absurd h h0
    | cons a l=>rfl
   have hx2:(bs (jau r)).toList.isEmpty=false:=by
    rw [ByteArray.toList_eq,jdb];cases h:jau r with
    | nil=>exact absurd h h0
    | cons a l=>rfl
   have hx3:¬ (bs (jau r)).toList = []:=by
    rw [ByteArray.toList_eq,jdb];exact h0
   have HX:Hid ((jau r).isEmpty=false):=by
    show _=false
    cases h:jau r with
    | nil=>exact absurd h h0
    | cons a l=>rfl
   go_wp2;go_ret;refine ⟨jad ?_,H1.out,B1.out⟩;rw [HE.out,HX.out];rfl
 ·go_wp2;go_ret;exact ⟨jad (by rw [HE.out];rfl),H1.out,B1.out⟩
theorem ygd {f:UInt8→Bool} {l:Bs} {k:Nat} (h1:(l.take k).all f=true) (h2:l.length≤k∨∃ b,l[k]? = some b∧f b=false):l.takeWhile f=l.take k∧l.dropWhile f=l.drop k:=by
 have:=tw (f:=f) (v:=l.take k) (rest:=l.drop k) (List.all_eq_true.1 h1) (by
  rcases h2 with h2 | ⟨b,hb,hf⟩
  ·rw [List.drop_of_length_le h2];intro b hb;simp at hb
  ·intro c hc;rw [List.head?_drop,hb] at hc;injection hc with hc;rw [← hc];exact hf)
 rw [List.take_append_drop] at this;exact this
theorem yqz (l:Bs) (k:Nat) (h:k<(bs l).size):l[k]? = some ((bs l)[k]):=by
 have h':k<l.length:=by rw [jeq] at h;exact h
 rw [List.getElem?_eq_getElem h'];rfl
theorem yf9 {f:UInt8→Bool} {l:Bs} {k:Nat} {b:UInt8} (h:(l.take k).all f=true) (hb:l[k]? = some b) (hf:f b=true):(l.take (k+1)).all f=true:=by
 rw [List.take_add_one,hb,List.all_append,h];simp [hf]
theorem yfu (p:PS) (g:Nat) (w:World) (h:PA w g p) (hs:p.rest.length≤2000) :
  Calls Tryz.prog 93 #[.pointer (some ⟨g,0,none⟩)] w fun e w'=>e = .returned (.string (bs (jcg p).1))∧PA w' g (jcg p).2∧w.grownBy w' (some g):=by
 have hlen:=jld p.rest;obtain ⟨r,b⟩:=p;have H:=hid h;simp only at hs hlen;have HE:Hid (jcg ⟨r,b⟩=((jau r).takeWhile ja5,⟨(jau r).dropWhile ja5,b⟩)):=rfl;go_enter Tryz.func93,Tryz.ntmps93
 go_wp2_with fail
 refine (yb4 ⟨r,b⟩ g _ H.out).mono ?_;rintro e w1 ⟨rfl,h1,hb1⟩;have H1:=hid h1;have B1:=hid hb1;obtain ⟨hg1,d0,d1,e0,e1⟩:=h1;simp only at d0 d1;clear hb1;obtain ⟨S,hS⟩:∃ S,S=bs (jau r):=⟨_,rfl⟩;have hsz:S.size=(jau r).length:=by rw [hS];exact jeq _
 rw [← hS] at d0;have HS:=hid hS;clear hS;have hszi:(S.size:Int)≤2000:=by omega
 go_wp2;go_loopw [3] (fun i wr=>∃ k:Nat,k≤S.size∧i = .int .i64 k∧Hid (((jau r).take k).all ja5=true)∧wr=w1) (fun i _=>S.size-(intOf i).toNat)
 case atStart=>exact ⟨0,Nat.zero_le _,rfl,rfl,rfl⟩
 case round =>
  obtain ⟨k,hk,rfl,hf,rfl⟩:=hrel;have hcut:(S.size≤k∨∃ b,(jau r)[k]? = some b∧ja5 b=false)→Hid ((jau r).takeWhile ja5=(jau r).take k∧(jau r).dropWhile ja5=(jau r).drop k):=fun hh=>ygd hf.out (by rcases hh with hh | hh;exact .inl (by omega);exact .inr hh);by_cases hlt:k<S.size
  ·have hlt':(k:Int)<S.size:=by omega
   have HX:Hid ((jau r)[k]? = some (S[k])):=by
    have h1:=HS.out;subst h1;exact yqz _ _ hlt
   by_cases h1:S[k].toNat<97
   ·have h1':(S[k].toNat:Int)<97:=by omega
    have HL:Hid (ja5 S[k]=false):=by simp [ja5,Hid];omega
    have HC:=hcut (.inr ⟨_,HX.out,HL.out⟩);clear hcut;go_wp2_with fail
    refine (jv2 ⟨jau r,b⟩ k g _ H1.out (by simp only;omega) (by simp only;omega)).mono ?_;rintro e w3 ⟨rfl,h3,hb3⟩;go_wp2;go_ret;refine ⟨?_,?_,World.grownBy.trans' B1.out hb3⟩
    ·rw [HE.out,HC.out.1];rfl
    ·rw [HE.out,HC.out.2];exact h3
   ·by_cases h2:122<S[k].toNat
    ·have h1':97≤(S[k].toNat:Int):=by omega
     have h2':122<(S[k].toNat:Int):=by omega
     have HL:Hid (ja5 S[k]=false):=by simp [ja5,Hid];omega
     have HC:=hcut (.inr ⟨_,HX.out,HL.out⟩);clear hcut;go_wp2_with fail
     refine (jv2 ⟨jau r,b⟩ k g _ H1.out (by simp only;omega) (by simp only;omega)).mono ?_;rintro e w3 ⟨rfl,h3,hb3⟩;go_wp2;go_ret;refine ⟨?_,?_,World.grownBy.trans' B1.out hb3⟩
     ·rw [HE.out,HC.out.1];rfl
     ·rw [HE.out,HC.out.2];exact h3
    ·have h1':97≤(S[k].toNat:Int):=by omega
     have h2':(S[k].toNat:Int)≤122:=by omega
     have HL:Hid (ja5 S[k]=true):=by simp [ja5,Hid];omega
     clear hcut;go_wp2;exact ⟨⟨k+1,by omega,by go_num,yf9 hf.out HX.out HL.out,by first | trivial | rfl⟩,by simp [intOf];omega⟩
  ·have hge:(S.size:Int)≤k:=by omega
   have HC:=hcut (.inl (by omega));clear hcut;go_wp2_with fail
   refine (jv2 ⟨jau r,b⟩ k g _ H1.out (by simp only;omega) (by simp only;omega)).mono ?_;rintro e w3 ⟨rfl,h3,hb3⟩;go_wp2;go_ret;refine ⟨?_,?_,World.grownBy.trans' B1.out hb3⟩
   ·rw [HE.out,HC.out.1];rfl
   ·rw [HE.out,HC.out.2];exact h3
theorem jbm (l:Bs):(bs l).toList=l:=by rw [ByteArray.toList_eq,jdb]
theorem yft (v:Bs) (p:PS) (g:Nat) (w:World) (h:PA w g p) (hs:p.rest.length≤2000) :
  Calls Tryz.prog 142 #[.pointer (some ⟨g,0,none⟩),.string (bs v)] w fun e w'=>e = .returned (.bool (jcx v p).1)∧PA w' g (jcx v p).2∧w.grownBy w' (some g):=by
 have H:=hid h;have HE:Hid (jcx v p=(decide ((jcg p).1=v),⟨(jcg p).2.rest,p.bad || (decide ((jcg p).1 ≠ []) && decide ((jcg p).1≠v))⟩)):=rfl;have HB:Hid ((jcg p).2.bad=p.bad):=rfl;go_enter Tryz.func142,Tryz.ntmps142
 go_wp2_with fail
 refine (yfu p g _ H.out hs).mono ?_;rintro e w1 ⟨rfl,h1,hb1⟩;have H1:=hid h1;have B1:=hid hb1;obtain ⟨hg1,d0,d1,e0,e1⟩:=h1;clear hb1;have hx:=jbm (jcg p).1;have hv:=jbm v;generalize hW:(jcg p).1=W at *;by_cases h0:W = []
 ·subst h0;by_cases h2:v = []
  ·subst h2;go_wp2;go_ret;refine ⟨jad (by rw [HE.out];rfl),?_,B1.out⟩;rw [HE.out];have:=H1.out
   rw [← HB.out];simpa using this
  ·have k1:([] == v)=false:=by cases v with | nil=>exact absurd rfl h2 | cons a l=>rfl
   have k2:¬ []=v:=fun h=>h2 h.symm;go_wp2;go_ret;refine ⟨jad (by rw [HE.out];simp [k2]),?_,B1.out⟩;rw [HE.out];have:=H1.out
   rw [← HB.out];simpa using this
 ·have k0:W.isEmpty=false:=by cases W with | nil=>exact absurd rfl h0 | cons a l=>rfl
  by_cases h2:W=v
  ·subst h2;go_wp2;go_ret;refine ⟨jad (by rw [HE.out];simp),?_,B1.out⟩;rw [HE.out];have:=H1.out
   rw [← HB.out];simpa using this
  ·have k1:(W == v)=false:=beq_eq_false_iff_ne.2 h2;go_wp2;go_ret;refine ⟨jad (by rw [HE.out];simp [h2]),?_,World.grownBy.trans' B1.out (jcv ..)⟩;rw [HE.out];have:=H1.out.set1 true
   simpa [h0,h2] using this
open Go.Lib (hid)
open Go.RowKit Go.Shelf
def jgt:List String:=["internal/strconv.uint64pow10","strconv.ErrSyntax","strconv.ErrRange","ratebook/text.policies"]
def jlp (g:Nat):Prop:=∀ n∈jgt,∀ k,Tryz.prog.globalNamed n=some k→k<g
structure VarsOk (w:World):Prop where
 tab:Lib.TabIs Tryz.prog w "internal/strconv.uint64pow10" .u64 Lib.pow10Tab
 syn:∃ tp a,w.var? Tryz.prog "strconv.ErrSyntax" = some #[.iface tp a]
 rng:∃ tp a,w.var? Tryz.prog "strconv.ErrRange" = some #[.iface tp a]
 pol:w.var? Tryz.prog "ratebook/text.policies" = some ((([] :: polW).map fun l=>Value.string (bs l)).toArray)
theorem ycw {P:Program} {w w':World} {n:String} (hb:∀ k,P.globalNamed n=some k→w'.heap[k]? = w.heap[k]?):w'.var? P n=w.var? P n:=by
 unfold World.var?;cases h:P.globalNamed n with
 | none=>rfl
 | some k=>simp only [Option.bind_some,hb k h]
theorem ygb {P:Program} {w:World} {n:String} {cs:Array Value} (h:w.var? P n=some cs):∀ k,P.globalNamed n=some k→k<w.heap.size:=by
 intro k hk;unfold World.var? at h;rw [hk] at h;simp only [Option.bind_some] at h;rcases Nat.lt_or_ge k w.heap.size with hlt | hge
 ·exact hlt
 ·rw [Array.getElem?_eq_none hge] at h;simp at h
theorem VarsOk.keep {w w':World} {g:Nat} (h:VarsOk w) (ha:jlp g) (hk:∀ k,k<g→w'.heap[k]? = w.heap[k]?):VarsOk w':=by
 have e:∀ n∈jgt,w'.var? Tryz.prog n=w.var? Tryz.prog n:=fun n hn=>ycw fun k hk'=>hk k (ha n hn k hk');obtain ⟨h1,h2,h3,h4⟩:=h;refine ⟨?_,?_,?_,?_⟩
 ·unfold Lib.TabIs at h1 ⊢;rw [e _ (by simp [jgt])];exact h1
 ·rw [e _ (by simp [jgt])];exact h2
 ·rw [e _ (by simp [jgt])];exact h3
 ·rw [e _ (by simp [jgt])];exact h4
theorem VarsOk.above {w:World} (h:VarsOk w):jlp w.heap.size:=by
 intro n hn k hk;simp only [jgt,List.mem_cons,List.not_mem_nil,or_false] at hn;obtain ⟨h1,⟨_,_,h2⟩,⟨_,_,h3⟩,h4⟩:=h;rcases hn with rfl | rfl | rfl | rfl
 ·exact ygb h1 k hk
 ·exact ygb h2 k hk
 ·exact ygb h3 k hk
 ·exact ygb h4 k hk
theorem jlp.mono {g g':Nat} (h:jlp g) (hg:g≤g'):jlp g':=fun n hn k hk=>Nat.lt_of_lt_of_le (h n hn k hk) hg
theorem VarsOk.next {w w':World} (h:VarsOk w) (hb:Below w.heap.size w w'):VarsOk w':=h.keep h.above fun k hk=>hb.block k hk
def PX (w:World) (g:Nat) (p:PS):Prop:=PA w g p∧VarsOk w∧jlp g
theorem PX.grown {w w':World} {g:Nat} {p p':PS} (h:PX w g p) (h':PA w' g p') (hg:w.grownBy w' (some g)):PX w' g p' :=
 ⟨h',h.2.1.keep h.2.2 fun k hk=>hg.block k (Nat.lt_trans hk h.1.1) (by intro e;injection e with e;omega),h.2.2⟩
theorem PX.next {w w':World} {g:Nat} {p:PS} (h:PX w g p) (hb:Below w.heap.size w w'):PX w' g p:=h.grown (h.1.next hb) (jak hb)
theorem jdw (l:Bs) (hl:l.length≤2000) (v:Int) (h:Lib.atoiAll l = .ok v) (w:World) :
  Calls Tryz.prog 178 #[.string (bs l)] w fun e w'=>e = .returned (.tuple #[.int .i64 v,.nilIface])∧Below w.heap.size w w':=by
 refine (Any.strconv_Atoi_ok Tryz.atoi (bs l) (by rw [jeq];omega) v (by rw [jdb];exact h) w).mono ?_;rintro e w' ⟨he,rfl | ⟨t,rfl⟩⟩
 ·exact ⟨he,Below.refl _ _⟩
 ·exact ⟨he,Lib.bytesWorld_below _ _ _⟩
theorem jir (l:Bs) (hl:l.length≤2000) (h:∀ v,Lib.atoiAll l≠.ok v) (w:World) (hv:VarsOk w) :
  Calls Tryz.prog 178 #[.string (bs l)] w fun e w'=>∃ n t N,e = .returned (.tuple #[.int .i64 n,.iface t (.pointer (some ⟨N,0,none⟩))])∧Below w.heap.size w w':=by
 cases hc:Lib.atoiAll l with
 | ok v=>exact absurd hc (h v)
 | range =>
  obtain ⟨tp,a,hs⟩:=hv.rng;refine (Any.strconv_Atoi_range_var Tryz.atoi (bs l) (by rw [jeq];omega) (by rw [jdb];exact hc) tp a w hs).mono ?_;rintro e w' ⟨N,he,_,_,hb⟩;exact ⟨_,_,N,he,hb⟩
 | _ =>
  obtain ⟨tp,a,hs⟩:=hv.syn;refine (Any.strconv_Atoi_syntax_var Tryz.atoi (bs l) (by rw [jeq];omega) (by rw [jdb];exact hc) tp a w hs).mono ?_;rintro e w' ⟨N,he,_,_,hb⟩;exact ⟨_,_,N,he,hb⟩
theorem je2 (n:Int) (h0:-9223372036854775808≤n) (h1:n≤9223372036854775807) (w:World) (hv:VarsOk w) :
  Calls Tryz.prog 152 #[.int .i64 n] w fun e w'=>e = .returned (.string (bs (Lib.itoa n)))∧Below w.heap.size w w':=by
 refine (Any.strconv_Itoa Tryz.itoa n h0 h1 w hv.tab).mono ?_;rintro e w' ⟨he,k,os,rfl⟩;exact ⟨he,Lib.below_grow _ _ (Nat.le_refl _) _ _⟩
theorem ybw {l:Bs} {k n0:Nat} (hn0:n0=if [45].isPrefixOf l then 1 else 0) (hk:n0≤k) (h1:((l.drop n0).take (k-n0)).all digB=true) (h2:l.length≤k∨∃ b,l[k]? = some b∧digB b=false) (hkl:k≤l.length):jm8 l=k:=by
 have:=(ygd (f:=digB) (l:=l.drop n0) (k:=k-n0) h1 (by
  rcases h2 with h2 | ⟨b,hb,hf⟩
  ·left;rw [List.length_drop];omega
  ·right;exact ⟨b,by rw [List.getElem?_drop,show n0+(k-n0)=k by omega];exact hb,hf⟩)).1
 have hlen:((l.drop n0).takeWhile digB).length=k-n0:=by
  rw [this,List.length_take,List.length_drop];omega
 unfold jm8;by_cases hp:[45].isPrefixOf l=true
 ·rw [if_pos hp] at hn0 ⊢;subst hn0;rw [hlen];omega
 ·rw [if_neg hp] at hn0 ⊢;subst hn0;rw [List.drop_zero] at hlen;rw [hlen];omega
theorem jl3 (s:Bs):(∃ v,Lib.atoiAll s = .ok v∧Lib.itoa v=s∧numV s=some v)∨(∃ v,Lib.atoiAll s = .ok v∧Lib.itoa v≠s∧numV s=none)∨((∀ v,Lib.atoiAll s≠.ok v)∧numV s=none):=by
 cases h:Lib.atoiAll s with
 | ok v =>
  by_cases hv:Lib.itoa v=s
  ·exact .inl ⟨v,rfl,hv,by unfold numV;rw [h];simp only [hv,if_true]⟩
  ·exact .inr (.inl ⟨v,rfl,hv,by unfold numV;rw [h];simp only [hv,if_false]⟩)
 | range=>exact .inr (.inr ⟨(fun v hv=>by cases hv),by unfold numV;rw [h]⟩)
 | _=>exact .inr (.inr ⟨(fun v hv=>by cases hv),by unfold numV;rw [h]⟩)
theorem ys1 (r:Bs) (b:Bool) (k:Nat) (h:Hid (jm8 (jau r)=k)) :
  Hid ((∀ v,numV ((jau r).take k)=some v→jaw ⟨r,b⟩=(v,⟨(jau r).drop k,b⟩))∧(numV ((jau r).take k)=none→jaw ⟨r,b⟩=(0,⟨(jau r).drop k,true⟩))):=by
 have h:=h.out;subst h;refine ⟨fun v hv=>?_,fun hv=>?_⟩ <;> (unfold jaw;simp only [hv])
theorem jp4 {l:Bs} {k n0:Nat} {b:UInt8} (hk:n0≤k) (h:((l.drop n0).take (k-n0)).all digB=true) (hb:l[k]? = some b) (hf:digB b=true):((l.drop n0).take (k+1-n0)).all digB=true:=by
 rw [show k+1-n0=k-n0+1 by omega];exact yf9 h (by rw [List.getElem?_drop,show n0+(k-n0)=k by omega];exact hb) hf
theorem jqi (p:PS) (g:Nat) (w:World) (h:PX w g p) (hs:p.rest.length≤2000) :
  Calls Tryz.prog 139 #[.pointer (some ⟨g,0,none⟩)] w fun e w'=>e = .returned (.int .i64 (jaw p).1)∧PA w' g (jaw p).2∧w.grownBy w' (some g):=by
 have hlen:=jld p.rest;obtain ⟨r,b⟩:=p;have H:=hid h;simp only at hs hlen;have HN0:=ys1 r b;obtain ⟨n0,hn0⟩:∃ n0:Nat,n0=if [45].isPrefixOf (jau r) then 1 else 0:=⟨_,rfl⟩
 have HN1:=hid hn0;have hn1:n0≤(jau r).length:=by
  rw [hn0];split
  ·rename_i h;exact (List.isPrefixOf_iff_prefix.1 h).length_le
  ·omega
 have hq:[45].isPrefixOf (jau r)=decide (n0=1):=by
  rw [hn0];cases [45].isPrefixOf (jau r) <;> rfl
 have hn01:n0=0∨n0=1:=by rw [hn0];split <;> simp
 clear hn0;have HQ:=hid hq;clear hq;obtain ⟨R,hR⟩:∃ R,R=jaw ⟨r,b⟩:=⟨_,rfl⟩;have HR:=hid hR;clear hR;go_enter Tryz.func139,Tryz.ntmps139
 go_wp2_with fail
 refine (yb4 ⟨r,b⟩ g _ H.out.1).mono ?_;rintro e w1 ⟨rfl,h1,hb1⟩;have H1:=hid (H.out.grown h1 hb1);have B1:=hid hb1;obtain ⟨hg1,d0,d1,e0,e1⟩:=h1;simp only at d0 d1;clear hb1;have hpre:=jmp (jau r) [45] w1;rw [HQ.out] at hpre;obtain ⟨S,hS⟩:∃ S,S=bs (jau r):=⟨_,rfl⟩;have hsz:S.size=(jau r).length:=by rw [hS];exact jeq _
 rw [← hS] at d0 hpre;have HS:=hid hS;clear hS;have hszi:(S.size:Int)≤2000:=by omega
 go_wp2_with fail
 refine hpre.mono ?_;rintro e w2 ⟨rfl,rfl⟩;clear hpre;rcases hn01 with rfl | rfl
 ·rw [decide_eq_false (show ¬ (0:Nat)=1 by decide)];go_wp2;go_loopw [3] (fun i wr=>∃ k:Nat,0≤k∧k≤S.size∧i = .int .i64 k∧Hid ((((jau r).drop 0).take (k-0)).all digB=true)∧wr=w2) (fun i _=>S.size-(intOf i).toNat)
  case atStart=>exact ⟨0,Nat.le_refl _,by omega,rfl,by show _=true;simp,rfl⟩
  case round =>
   obtain ⟨k,hk0,hk,rfl,hf,rfl⟩:=hrel;have hcut:(S.size≤k∨∃ b,(jau r)[k]? = some b∧digB b=false)→Hid (jm8 (jau r)=k):=fun hh=>ybw HN1.out hk0 hf.out (by rcases hh with hh | hh;exact .inl (by omega);exact .inr hh) (by omega);by_cases hlt:k<S.size
   ·have hlt':(k:Int)<S.size:=by omega
    have HX:Hid ((jau r)[k]? = some (S[k])):=by
     have h1:=HS.out;subst h1;exact yqz _ _ hlt
    by_cases h1:S[k].toNat<48
    ·have h1':(S[k].toNat:Int)<48:=by omega
     have HL:Hid (digB S[k]=false):=by simp [digB,Hid];omega
     have HC:=hcut (.inr ⟨_,HX.out,HL.out⟩);clear hcut;go_wp2_with fail
     refine (jv2 ⟨jau r,b⟩ k g _ H1.out.1 (by simp only;omega) (by simp only;omega)).mono ?_;rintro e w3 ⟨rfl,h3,hb3⟩;have X3:=hid (H1.out.grown h3 hb3);have B3:=hid (World.grownBy.trans' B1.out hb3);clear h3 hb3;have hs3:((jau r).take k).length≤2000:=by rw [List.length_take];omega
     simp only at X3;have HN:=HN0 k HC;clear HN0;obtain ⟨D,hD⟩:∃ D,D=(jau r).drop k:=⟨_,rfl⟩;rw [← hD] at X3 HN;generalize (jau r).take k=s at hs3 X3 HN ⊢;clear hD;rcases jl3 s with ⟨v,ha,hv⟩ | ⟨v,ha,hv,hn⟩ | ⟨ha,hn⟩
     ·have hnp:=HN.out.1 v hv.2;have HP:=hid hnp;clear HN hnp;obtain ⟨hb0,hb1⟩:=Lib.atoiAll_bounds ha;have hx:(bs (Lib.itoa v)).toList=(bs s).toList:=by rw [hv.1]
      have hx2:bs (Lib.itoa v)=bs s:=by rw [hv.1]
      clear hv;go_wp2_with fail
      refine (jdw s hs3 v ha _).mono ?_;rintro e w4 ⟨rfl,hb4⟩;have X4:=hid (X3.out.next hb4);have B4:=hid (World.grownBy.trans' B3.out (jak hb4));clear hb4;go_wp2_with fail
      refine (je2 v hb0 hb1 _ X4.out.2.1).mono ?_;rintro e w5 ⟨rfl,hb5⟩;rw [hx2];clear hx hx2;have X5:=hid (X4.out.next hb5);have B5:=hid (World.grownBy.trans' B4.out (jak hb5));clear hb5;go_wp2;go_ret;exact ⟨by rw [HP.out];rfl,by rw [HP.out];exact X5.out.1,B5.out⟩
     ·have hnp:=HN.out.2 hn;have HP:=hid hnp;clear HN hnp;obtain ⟨hb0,hb1⟩:=Lib.atoiAll_bounds ha;have hx:((bs (Lib.itoa v)).toList == (bs s).toList)=false:=by rw [jbm,jbm];exact beq_eq_false_iff_ne.2 hv
      have hx1:=jbm (Lib.itoa v);have hx2:=jbm s;have hx3:(Lib.itoa v == s)=false:=beq_eq_false_iff_ne.2 hv;go_wp2_with fail
      refine (jdw s hs3 v ha _).mono ?_;rintro e w4 ⟨rfl,hb4⟩;have X4:=hid (X3.out.next hb4);have B4:=hid (World.grownBy.trans' B3.out (jak hb4));clear hb4;go_wp2_with fail
      refine (je2 v hb0 hb1 _ X4.out.2.1).mono ?_;rintro e w5 ⟨rfl,hb5⟩;have X5:=hid (X4.out.next hb5);have B5:=hid (World.grownBy.trans' B4.out (jak hb5));clear hb5;obtain ⟨⟨q0,q1,q2,q3,q4⟩,q5,q6⟩:=X5.out;clear q5 q6;go_wp2;go_ret;exact ⟨by rw [HP.out];rfl,by rw [HP.out];exact X5.out.1.set1 true,World.grownBy.trans' B5.out (jcv ..)⟩
     ·have hnp:=HN.out.2 hn;have HP:=hid hnp;clear HN hnp;go_wp2_with fail
      refine (jir s hs3 ha _ X3.out.2.1).mono ?_;rintro e w4 ⟨n,ti,N,rfl,hb4⟩;have X4:=hid (X3.out.next hb4);have B4:=hid (World.grownBy.trans' B3.out (jak hb4));clear hb4;obtain ⟨⟨q0,q1,q2,q3,q4⟩,q5,q6⟩:=X4.out;clear q5 q6;go_wp2;go_ret;exact ⟨by rw [HP.out];rfl,by rw [HP.out];exact X4.out.1.set1 true,World.grownBy.trans' B4.out (jcv ..)⟩
    ·by_cases h2:57<S[k].toNat
     ·have h1':48≤(S[k].toNat:Int):=by omega
      have h2':57<(S[k].toNat:Int):=by omega
      have HL:Hid (digB S[k]=false):=by simp [digB,Hid];omega
      have HC:=hcut (.inr ⟨_,HX.out,HL.out⟩);clear hcut;go_wp2_with fail
      refine (jv2 ⟨jau r,b⟩ k g _ H1.out.1 (by simp only;omega) (by simp only;omega)).mono ?_;rintro e w3 ⟨rfl,h3,hb3⟩;have X3:=hid (H1.out.grown h3 hb3);have B3:=hid (World.grownBy.trans' B1.out hb3);clear h3 hb3;have hs3:((jau r).take k).length≤2000:=by rw [List.length_take];omega
      simp only at X3;have HN:=HN0 k HC;clear HN0;obtain ⟨D,hD⟩:∃ D,D=(jau r).drop k:=⟨_,rfl⟩;rw [← hD] at X3 HN;generalize (jau r).take k=s at hs3 X3 HN ⊢;clear hD;rcases jl3 s with ⟨v,ha,hv⟩ | ⟨v,ha,hv,hn⟩ | ⟨ha,hn⟩
      ·have hnp:=HN.out.1 v hv.2;have HP:=hid hnp;clear HN hnp;obtain ⟨hb0,hb1⟩:=Lib.atoiAll_bounds ha;have hx:(bs (Lib.itoa v)).toList=(bs s).toList:=by rw [hv.1]
       have hx2:bs (Lib.itoa v)=bs s:=by rw [hv.1]
       clear hv;go_wp2_with fail
       refine (jdw s hs3 v ha _).mono ?_;rintro e w4 ⟨rfl,hb4⟩;have X4:=hid (X3.out.next hb4);have B4:=hid (World.grownBy.trans' B3.out (jak hb4));clear hb4;go_wp2_with fail
       refine (je2 v hb0 hb1 _ X4.out.2.1).mono ?_;rintro e w5 ⟨rfl,hb5⟩;rw [hx2];clear hx hx2;have X5:=hid (X4.out.next hb5);have B5:=hid (World.grownBy.trans' B4.out (jak hb5));clear hb5;go_wp2;go_ret;exact ⟨by rw [HP.out];rfl,by rw [HP.out];exact X5.out.1,B5.out⟩
      ·have hnp:=HN.out.2 hn;have HP:=hid hnp;clear HN hnp;obtain ⟨hb0,hb1⟩:=Lib.atoiAll_bounds ha;have hx:((bs (Lib.itoa v)).toList == (bs s).toList)=false:=by rw [jbm,jbm];exact beq_eq_false_iff_ne.2 hv
       have hx1:=jbm (Lib.itoa v);have hx2:=jbm s;have hx3:(Lib.itoa v == s)=false:=beq_eq_false_iff_ne.2 hv;go_wp2_with fail
       refine (jdw s hs3 v ha _).mono ?_;rintro e w4 ⟨rfl,hb4⟩;have X4:=hid (X3.out.next hb4);have B4:=hid (World.grownBy.trans' B3.out (jak hb4));clear hb4;go_wp2_with fail
       refine (je2 v hb0 hb1 _ X4.out.2.1).mono ?_;rintro e w5 ⟨rfl,hb5⟩;have X5:=hid (X4.out.next hb5);have B5:=hid (World.grownBy.trans' B4.out (jak hb5));clear hb5;obtain ⟨⟨q0,q1,q2,q3,q4⟩,q5,q6⟩:=X5.out;clear q5 q6;go_wp2;go_ret;exact ⟨by rw [HP.out];rfl,by rw [HP.out];exact X5.out.1.set1 true,World.grownBy.trans' B5.out (jcv ..)⟩
      ·have hnp:=HN.out.2 hn;have HP:=hid hnp;clear HN hnp;go_wp2_with fail
       refine (jir s hs3 ha _ X3.out.2.1).mono ?_;rintro e w4 ⟨n,ti,N,rfl,hb4⟩;have X4:=hid (X3.out.next hb4);have B4:=hid (World.grownBy.trans' B3.out (jak hb4));clear hb4;obtain ⟨⟨q0,q1,q2,q3,q4⟩,q5,q6⟩:=X4.out;clear q5 q6;go_wp2;go_ret;exact ⟨by rw [HP.out];rfl,by rw [HP.out];exact X4.out.1.set1 true,World.grownBy.trans' B4.out (jcv ..)⟩
     ·have h1':48≤(S[k].toNat:Int):=by omega
      have h2':(S[k].toNat:Int)≤57:=by omega
      have HL:Hid (digB S[k]=true):=by simp [digB,Hid];omega
      clear hcut;go_wp2;exact ⟨⟨k+1,by omega,by omega,by go_num,jp4 hk0 hf.out HX.out HL.out,by first | trivial | rfl⟩,by simp [intOf];omega⟩
   ·have hge:(S.size:Int)≤k:=by omega
    have HC:=hcut (.inl (by omega));clear hcut;go_wp2_with fail
    refine (jv2 ⟨jau r,b⟩ k g _ H1.out.1 (by simp only;omega) (by simp only;omega)).mono ?_;rintro e w3 ⟨rfl,h3,hb3⟩;have X3:=hid (H1.out.grown h3 hb3);have B3:=hid (World.grownBy.trans' B1.out hb3);clear h3 hb3;have hs3:((jau r).take k).length≤2000:=by rw [List.length_take];omega
    simp only at X3;have HN:=HN0 k HC;clear HN0;obtain ⟨D,hD⟩:∃ D,D=(jau r).drop k:=⟨_,rfl⟩;rw [← hD] at X3 HN;generalize (jau r).take k=s at hs3 X3 HN ⊢;clear hD;rcases jl3 s with ⟨v,ha,hv⟩ | ⟨v,ha,hv,hn⟩ | ⟨ha,hn⟩
    ·have hnp:=HN.out.1 v hv.2;have HP:=hid hnp;clear HN hnp;obtain ⟨hb0,hb1⟩:=Lib.atoiAll_bounds ha;have hx:(bs (Lib.itoa v)).toList=(bs s).toList:=by rw [hv.1]
     have hx2:bs (Lib.itoa v)=bs s:=by rw [hv.1]
     clear hv;go_wp2_with fail
     refine (jdw s hs3 v ha _).mono ?_;rintro e w4 ⟨rfl,hb4⟩;have X4:=hid (X3.out.next hb4);have B4:=hid (World.grownBy.trans' B3.out (jak hb4));clear hb4;go_wp2_with fail
     refine (je2 v hb0 hb1 _ X4.out.2.1).mono ?_;rintro e w5 ⟨rfl,hb5⟩;rw [hx2];clear hx hx2;have X5:=hid (X4.out.next hb5);have B5:=hid (World.grownBy.trans' B4.out (jak hb5));clear hb5;go_wp2;go_ret;exact ⟨by rw [HP.out];rfl,by rw [HP.out];exact X5.out.1,B5.out⟩
    ·have hnp:=HN.out.2 hn;have HP:=hid hnp;clear HN hnp;obtain ⟨hb0,hb1⟩:=Lib.atoiAll_bounds ha;have hx:((bs (Lib.itoa v)).toList == (bs s).toList)=false:=by rw [jbm,jbm];exact beq_eq_false_iff_ne.2 hv
     have hx1:=jbm (Lib.itoa v);have hx2:=jbm s;have hx3:(Lib.itoa v == s)=false:=beq_eq_false_iff_ne.2 hv;go_wp2_with fail
     refine (jdw s hs3 v ha _).mono ?_;rintro e w4 ⟨rfl,hb4⟩;have X4:=hid (X3.out.next hb4);have B4:=hid (World.grownBy.trans' B3.out (jak hb4));clear hb4;go_wp2_with fail
     refine (je2 v hb0 hb1 _ X4.out.2.1).mono ?_;rintro e w5 ⟨rfl,hb5⟩;have X5:=hid (X4.out.next hb5);have B5:=hid (World.grownBy.trans' B4.out (jak hb5));clear hb5;obtain ⟨⟨q0,q1,q2,q3,q4⟩,q5,q6⟩:=X5.out;clear q5 q6;go_wp2;go_ret;exact ⟨by rw [HP.out];rfl,by rw [HP.out];exact X5.out.1.set1 true,World.grownBy.trans' B5.out (jcv ..)⟩
    ·have hnp:=HN.out.2 hn;have HP:=hid hnp;clear HN hnp;go_wp2_with fail
     refine (jir s hs3 ha _ X3.out.2.1).mono ?_;rintro e w4 ⟨n,ti,N,rfl,hb4⟩;have X4:=hid (X3.out.next hb4);have B4:=hid (World.grownBy.trans' B3.out (jak hb4));clear hb4;obtain ⟨⟨q0,q1,q2,q3,q4⟩,q5,q6⟩:=X4.out;clear q5 q6;go_wp2;go_ret;exact ⟨by rw [HP.out];rfl,by rw [HP.out];exact X4.out.1.set1 true,World.grownBy.trans' B4.out (jcv ..)⟩
 ·rw [decide_eq_true (show (1:Nat)=1 from rfl)];go_wp2;go_loopw [3] (fun i wr=>∃ k:Nat,1≤k∧k≤S.size∧i = .int .i64 k∧Hid ((((jau r).drop 1).take (k-1)).all digB=true)∧wr=w2) (fun i _=>S.size-(intOf i).toNat)
  case atStart=>exact ⟨1,Nat.le_refl _,by omega,rfl,by show _=true;simp,rfl⟩
  case round =>
   obtain ⟨k,hk0,hk,rfl,hf,rfl⟩:=hrel;have hcut:(S.size≤k∨∃ b,(jau r)[k]? = some b∧digB b=false)→Hid (jm8 (jau r)=k):=fun hh=>ybw HN1.out hk0 hf.out (by rcases hh with hh | hh;exact .inl (by omega);exact .inr hh) (by omega);by_cases hlt:k<S.size
   ·have hlt':(k:Int)<S.size:=by omega
    have HX:Hid ((jau r)[k]? = some (S[k])):=by
     have h1:=HS.out;subst h1;exact yqz _ _ hlt
    by_cases h1:S[k].toNat<48
    ·have h1':(S[k].toNat:Int)<48:=by omega
     have HL:Hid (digB S[k]=false):=by simp [digB,Hid];omega
     have HC:=hcut (.inr ⟨_,HX.out,HL.out⟩);clear hcut;go_wp2_with fail
     refine (jv2 ⟨jau r,b⟩ k g _ H1.out.1 (by simp only;omega) (by simp only;omega)).mono ?_;rintro e w3 ⟨rfl,h3,hb3⟩;have X3:=hid (H1.out.grown h3 hb3);have B3:=hid (World.grownBy.trans' B1.out hb3);clear h3 hb3;have hs3:((jau r).take k).length≤2000:=by rw [List.length_take];omega
     simp only at X3;have HN:=HN0 k HC;clear HN0;obtain ⟨D,hD⟩:∃ D,D=(jau r).drop k:=⟨_,rfl⟩;rw [← hD] at X3 HN;generalize (jau r).take k=s at hs3 X3 HN ⊢;clear hD;rcases jl3 s with ⟨v,ha,hv⟩ | ⟨v,ha,hv,hn⟩ | ⟨ha,hn⟩
     ·have hnp:=HN.out.1 v hv.2;have HP:=hid hnp;clear HN hnp;obtain ⟨hb0,hb1⟩:=Lib.atoiAll_bounds ha;have hx:(bs (Lib.itoa v)).toList=(bs s).toList:=by rw [hv.1]
      have hx2:bs (Lib.itoa v)=bs s:=by rw [hv.1]
      clear hv;go_wp2_with fail
      refine (jdw s hs3 v ha _).mono ?_;rintro e w4 ⟨rfl,hb4⟩;have X4:=hid (X3.out.next hb4);have B4:=hid (World.grownBy.trans' B3.out (jak hb4));clear hb4;go_wp2_with fail
      refine (je2 v hb0 hb1 _ X4.out.2.1).mono ?_;rintro e w5 ⟨rfl,hb5⟩;rw [hx2];clear hx hx2;have X5:=hid (X4.out.next hb5);have B5:=hid (World.grownBy.trans' B4.out (jak hb5));clear hb5;go_wp2;go_ret;exact ⟨by rw [HP.out];rfl,by rw [HP.out];exact X5.out.1,B5.out⟩
     ·have hnp:=HN.out.2 hn;have HP:=hid hnp;clear HN hnp;obtain ⟨hb0,hb1⟩:=Lib.atoiAll_bounds ha;have hx:((bs (Lib.itoa v)).toList == (bs s).toList)=false:=by rw [jbm,jbm];exact beq_eq_false_iff_ne.2 hv
      have hx1:=jbm (Lib.itoa v);have hx2:=jbm s;have hx3:(Lib.itoa v == s)=false:=beq_eq_false_iff_ne.2 hv;go_wp2_with fail
      refine (jdw s hs3 v ha _).mono ?_;rintro e w4 ⟨rfl,hb4⟩;have X4:=hid (X3.out.next hb4);have B4:=hid (World.grownBy.trans' B3.out (jak hb4));clear hb4;go_wp2_with fail
      refine (je2 v hb0 hb1 _ X4.out.2.1).mono ?_;rintro e w5 ⟨rfl,hb5⟩;have X5:=hid (X4.out.next hb5);have B5:=hid (World.grownBy.trans' B4.out (jak hb5));clear hb5;obtain ⟨⟨q0,q1,q2,q3,q4⟩,q5,q6⟩:=X5.out;clear q5 q6;go_wp2;go_ret;exact ⟨by rw [HP.out];rfl,by rw [HP.out];exact X5.out.1.set1 true,World.grownBy.trans' B5.out (jcv ..)⟩
     ·have hnp:=HN.out.2 hn;have HP:=hid hnp;clear HN hnp;go_wp2_with fail
      refine (jir s hs3 ha _ X3.out.2.1).mono ?_;rintro e w4 ⟨n,ti,N,rfl,hb4⟩;have X4:=hid (X3.out.next hb4);have B4:=hid (World.grownBy.trans' B3.out (jak hb4));clear hb4;obtain ⟨⟨q0,q1,q2,q3,q4⟩,q5,q6⟩:=X4.out;clear q5 q6;go_wp2;go_ret;exact ⟨by rw [HP.out];rfl,by rw [HP.out];exact X4.out.1.set1 true,World.grownBy.trans' B4.out (jcv ..)⟩
    ·by_cases h2:57<S[k].toNat
     ·have h1':48≤(S[k].toNat:Int):=by omega
      have h2':57<(S[k].toNat:Int):=by omega
      have HL:Hid (digB S[k]=false):=by simp [digB,Hid];omega
      have HC:=hcut (.inr ⟨_,HX.out,HL.out⟩);clear hcut;go_wp2_with fail
      refine (jv2 ⟨jau r,b⟩ k g _ H1.out.1 (by simp only;omega) (by simp only;omega)).mono ?_;rintro e w3 ⟨rfl,h3,hb3⟩;have X3:=hid (H1.out.grown h3 hb3);have B3:=hid (World.grownBy.trans' B1.out hb3);clear h3 hb3;have hs3:((jau r).take k).length≤2000:=by rw [List.length_take];omega
      simp only at X3;have HN:=HN0 k HC;clear HN0;obtain ⟨D,hD⟩:∃ D,D=(jau r).drop k:=⟨_,rfl⟩;rw [← hD] at X3 HN;generalize (jau r).take k=s at hs3 X3 HN ⊢;clear hD;rcases jl3 s with ⟨v,ha,hv⟩ | ⟨v,ha,hv,hn⟩ | ⟨ha,hn⟩
      ·have hnp:=HN.out.1 v hv.2;have HP:=hid hnp;clear HN hnp;obtain ⟨hb0,hb1⟩:=Lib.atoiAll_bounds ha;have hx:(bs (Lib.itoa v)).toList=(bs s).toList:=by rw [hv.1]
       have hx2:bs (Lib.itoa v)=bs s:=by rw [hv.1]
       clear hv;go_wp2_with fail
       refine (jdw s hs3 v ha _).mono ?_;rintro e w4 ⟨rfl,hb4⟩;have X4:=hid (X3.out.next hb4);have B4:=hid (World.grownBy.trans' B3.out (jak hb4));clear hb4;go_wp2_with fail
       refine (je2 v hb0 hb1 _ X4.out.2.1).mono ?_;rintro e w5 ⟨rfl,hb5⟩;rw [hx2];clear hx hx2;have X5:=hid (X4.out.next hb5);have B5:=hid (World.grownBy.trans' B4.out (jak hb5));clear hb5;go_wp2;go_ret;exact ⟨by rw [HP.out];rfl,by rw [HP.out];exact X5.out.1,B5.out⟩
      ·have hnp:=HN.out.2 hn;have HP:=hid hnp;clear HN hnp;obtain ⟨hb0,hb1⟩:=Lib.atoiAll_bounds ha;have hx:((bs (Lib.itoa v)).toList == (bs s).toList)=false:=by rw [jbm,jbm];exact beq_eq_false_iff_ne.2 hv
       have hx1:=jbm (Lib.itoa v);have hx2:=jbm s;have hx3:(Lib.itoa v == s)=false:=beq_eq_false_iff_ne.2 hv;go_wp2_with fail
       refine (jdw s hs3 v ha _).mono ?_;rintro e w4 ⟨rfl,hb4⟩;have X4:=hid (X3.out.next hb4);have B4:=hid (World.grownBy.trans' B3.out (jak hb4));clear hb4;go_wp2_with fail
       refine (je2 v hb0 hb1 _ X4.out.2.1).mono ?_;rintro e w5 ⟨rfl,hb5⟩;have X5:=hid (X4.out.next hb5);have B5:=hid (World.grownBy.trans' B4.out (jak hb5));clear hb5;obtain ⟨⟨q0,q1,q2,q3,q4⟩,q5,q6⟩:=X5.out;clear q5 q6;go_wp2;go_ret;exact ⟨by rw [HP.out];rfl,by rw [HP.out];exact X5.out.1.set1 true,World.grownBy.trans' B5.out (jcv ..)⟩
      ·have hnp:=HN.out.2 hn;have HP:=hid hnp;clear HN hnp;go_wp2_with fail
       refine (jir s hs3 ha _ X3.out.2.1).mono ?_;rintro e w4 ⟨n,ti,N,rfl,hb4⟩;have X4:=hid (X3.out.next hb4);have B4:=hid (World.grownBy.trans' B3.out (jak hb4));clear hb4;obtain ⟨⟨q0,q1,q2,q3,q4⟩,q5,q6⟩:=X4.out;clear q5 q6;go_wp2;go_ret;exact ⟨by rw [HP.out];rfl,by rw [HP.out];exact X4.out.1.set1 true,World.grownBy.trans' B4.out (jcv ..)⟩
     ·have h1':48≤(S[k].toNat:Int):=by omega
      have h2':(S[k].toNat:Int)≤57:=by omega
      have HL:Hid (digB S[k]=true):=by simp [digB,Hid];omega
      clear hcut;go_wp2;exact ⟨⟨k+1,by omega,by omega,by go_num,jp4 hk0 hf.out HX.out HL.out,by first | trivial | rfl⟩,by simp [intOf];omega⟩
   ·have hge:(S.size:Int)≤k:=by omega
    have HC:=hcut (.inl (by omega));clear hcut;go_wp2_with fail
    refine (jv2 ⟨jau r,b⟩ k g _ H1.out.1 (by simp only;omega) (by simp only;omega)).mono ?_;rintro e w3 ⟨rfl,h3,hb3⟩;have X3:=hid (H1.out.grown h3 hb3);have B3:=hid (World.grownBy.trans' B1.out hb3);clear h3 hb3;have hs3:((jau r).take k).length≤2000:=by rw [List.length_take];omega
    simp only at X3;have HN:=HN0 k HC;clear HN0;obtain ⟨D,hD⟩:∃ D,D=(jau r).drop k:=⟨_,rfl⟩;rw [← hD] at X3 HN;generalize (jau r).take k=s at hs3 X3 HN ⊢;clear hD;rcases jl3 s with ⟨v,ha,hv⟩ | ⟨v,ha,hv,hn⟩ | ⟨ha,hn⟩
    ·have hnp:=HN.out.1 v hv.2;have HP:=hid hnp;clear HN hnp;obtain ⟨hb0,hb1⟩:=Lib.atoiAll_bounds ha;have hx:(bs (Lib.itoa v)).toList=(bs s).toList:=by rw [hv.1]
     have hx2:bs (Lib.itoa v)=bs s:=by rw [hv.1]
     clear hv;go_wp2_with fail
     refine (jdw s hs3 v ha _).mono ?_;rintro e w4 ⟨rfl,hb4⟩;have X4:=hid (X3.out.next hb4);have B4:=hid (World.grownBy.trans' B3.out (jak hb4));clear hb4;go_wp2_with fail
     refine (je2 v hb0 hb1 _ X4.out.2.1).mono ?_;rintro e w5 ⟨rfl,hb5⟩;rw [hx2];clear hx hx2;have X5:=hid (X4.out.next hb5);have B5:=hid (World.grownBy.trans' B4.out (jak hb5));clear hb5;go_wp2;go_ret;exact ⟨by rw [HP.out];rfl,by rw [HP.out];exact X5.out.1,B5.out⟩
    ·have hnp:=HN.out.2 hn;have HP:=hid hnp;clear HN hnp;obtain ⟨hb0,hb1⟩:=Lib.atoiAll_bounds ha;have hx:((bs (Lib.itoa v)).toList == (bs s).toList)=false:=by rw [jbm,jbm];exact beq_eq_false_iff_ne.2 hv
     have hx1:=jbm (Lib.itoa v);have hx2:=jbm s;have hx3:(Lib.itoa v == s)=false:=beq_eq_false_iff_ne.2 hv;go_wp2_with fail
     refine (jdw s hs3 v ha _).mono ?_;rintro e w4 ⟨rfl,hb4⟩;have X4:=hid (X3.out.next hb4);have B4:=hid (World.grownBy.trans' B3.out (jak hb4));clear hb4;go_wp2_with fail
     refine (je2 v hb0 hb1 _ X4.out.2.1).mono ?_;rintro e w5 ⟨rfl,hb5⟩;have X5:=hid (X4.out.next hb5);have B5:=hid (World.grownBy.trans' B4.out (jak hb5));clear hb5;obtain ⟨⟨q0,q1,q2,q3,q4⟩,q5,q6⟩:=X5.out;clear q5 q6;go_wp2;go_ret;exact ⟨by rw [HP.out];rfl,by rw [HP.out];exact X5.out.1.set1 true,World.grownBy.trans' B5.out (jcv ..)⟩
    ·have hnp:=HN.out.2 hn;have HP:=hid hnp;clear HN hnp;go_wp2_with fail
     refine (jir s hs3 ha _ X3.out.2.1).mono ?_;rintro e w4 ⟨n,ti,N,rfl,hb4⟩;have X4:=hid (X3.out.next hb4);have B4:=hid (World.grownBy.trans' B3.out (jak hb4));clear hb4;obtain ⟨⟨q0,q1,q2,q3,q4⟩,q5,q6⟩:=X4.out;clear q5 q6;go_wp2;go_ret;exact ⟨by rw [HP.out];rfl,by rw [HP.out];exact X4.out.1.set1 true,World.grownBy.trans' B4.out (jcv ..)⟩
end Go.Proofs.YthmlndmlnlfhnaaGreatDoor
