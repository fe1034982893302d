/-
  Parts of the proofs, joined by program.
-/
import Derived.Shelf.Strings.Cut
import Derived.Shelf.Strings.Split
import Derived.Shelf.Strconv.AtoiAll
import Derived.Shelf.Strconv.Itoa4
import Derived.Shelf.Small.Strs
import Derived.Shelf.Strings.BuilderK
import Derived.Shelf.Strings.Builder2
import Derived.Test.YtchmlnmhbfaclaaGreatDoorProg
import Derived.Test.YtchmlnmhbfaclaaGreatDoorJRef
import Derived.Test.YtchmlnmhbfaclaaGreatDoorJNum
import Derived.Test.YtchmlnmhbfaclaaGreatDoorJDfr
import Derived.BigQuiet
import Derived.Lib.SmallJoins
import Derived.Lib.AtoiErrMem
import Derived.Lib.AppendIntMem
import Derived.Test.YtchmlnmhbfaclaaGreatDoorJIm
namespace Go.Proofs.YtchmlnmhbfaclaaGreatDoor
open Go.RowKit Go.Shelf
set_option linter.unusedVariables false
def zoa:Ren:={ f:=fun | 145=>51 | 220=>84 | 219=>125 | 217=>175 | 225=>176 | 224=>177 | 267=>178 | 266=>222 | 314=>223 | n=>n,t:=fun | 9=>9 | 4=>4 | 59=>111 | 3=>3 | 5=>5 | 46=>251 | 146=>327 | 51=>326 | n=>n,g:=fun | 1=>2 | n=>n }
theorem zAa:Lays.n145 Tryz.prog zoa:={ mixed:=by kernel_rfl,f145:=Tryz.func51.trans rfl,f217:=Tryz.func175.trans rfl,f219:=Tryz.func125.trans rfl,f220:=Tryz.func84.trans rfl,f224:=Tryz.func177.trans rfl,f225:=Tryz.func176.trans rfl,f266:=Tryz.func222.trans rfl,f267:=Tryz.func178.trans rfl,f314:=Tryz.func223.trans rfl,t3:=Tryz.underlying3,a3:=Tryz.isAgg3,z3:=Tryz.sizeOf3,v3:=Tryz.zeroValue3,t4:=Tryz.underlying4,a4:=Tryz.isAgg4,z4:=Tryz.sizeOf4,v4:=Tryz.zeroValue4,t5:=Tryz.underlying5,a5:=Tryz.isAgg5,z5:=Tryz.sizeOf5,v5:=Tryz.zeroValue5,t9:=Tryz.underlying9,a9:=Tryz.isAgg9,z9:=Tryz.sizeOf9,v9:=Tryz.zeroValue9,t46:=Tryz.underlying251,a46:=Tryz.isAgg251,z46:=Tryz.sizeOf251,v46:=Tryz.zeroValue251,t51:=Tryz.underlying326,a51:=Tryz.isAgg326,z51:=Tryz.sizeOf326,v51:=Tryz.zeroValue326,t59:=Tryz.underlying111,a59:=Tryz.isAgg111,z59:=Tryz.sizeOf111,v59:=Tryz.zeroValue111,t146:=Tryz.underlying327,a146:=Tryz.isAgg327,z146:=Tryz.sizeOf327,v146:=Tryz.zeroValue327,g1:=by kernel_rfl }
def zi7:Ren:={ f:=fun | 146=>86 | 221=>126 | 268=>179 | 138=>180 | 143=>181 | 195=>224 | 197=>225 | 218=>226 | 219=>125 | 260=>278 | 217=>175 | 225=>176 | 224=>177 | 267=>178 | 266=>222 | 314=>223 | n=>n,t:=fun | 9=>9 | 31=>64 | 3=>3 | 4=>4 | 0=>0 | 105=>330 | 21=>21 | 5=>5 | 46=>251 | 119=>406 | 139=>409 | 138=>408 | 146=>327 | 51=>326 | n=>n,g:=fun | 1=>2 | 3=>3 | 4=>4 | n=>n }
theorem ztX:Lays.n146 Tryz.prog zi7:={ mixed:=by kernel_rfl,f138:=Tryz.func180.trans rfl,f143:=Tryz.func181.trans rfl,f146:=Tryz.func86.trans rfl,f195:=Tryz.func224.trans rfl,f197:=Tryz.func225.trans rfl,f217:=Tryz.func175.trans rfl,f218:=Tryz.func226.trans rfl,f219:=Tryz.func125.trans rfl,f221:=Tryz.func126.trans rfl,f224:=Tryz.func177.trans rfl,f225:=Tryz.func176.trans rfl,f260:=Tryz.func278.trans rfl,f266:=Tryz.func222.trans rfl,f267:=Tryz.func178.trans rfl,f268:=Tryz.func179.trans rfl,f314:=Tryz.func223.trans rfl,t0:=Tryz.underlying0,a0:=Tryz.isAgg0,z0:=Tryz.sizeOf0,v0:=Tryz.zeroValue0,t3:=Tryz.underlying3,a3:=Tryz.isAgg3,z3:=Tryz.sizeOf3,v3:=Tryz.zeroValue3,t4:=Tryz.underlying4,a4:=Tryz.isAgg4,z4:=Tryz.sizeOf4,v4:=Tryz.zeroValue4,t5:=Tryz.underlying5,a5:=Tryz.isAgg5,z5:=Tryz.sizeOf5,v5:=Tryz.zeroValue5,t9:=Tryz.underlying9,a9:=Tryz.isAgg9,z9:=Tryz.sizeOf9,v9:=Tryz.zeroValue9,t21:=Tryz.underlying21,a21:=Tryz.isAgg21,z21:=Tryz.sizeOf21,v21:=Tryz.zeroValue21,t31:=Tryz.underlying64,a31:=Tryz.isAgg64,z31:=Tryz.sizeOf64,v31:=Tryz.zeroValue64,t46:=Tryz.underlying251,a46:=Tryz.isAgg251,z46:=Tryz.sizeOf251,v46:=Tryz.zeroValue251,t51:=Tryz.underlying326,a51:=Tryz.isAgg326,z51:=Tryz.sizeOf326,v51:=Tryz.zeroValue326,t105:=Tryz.underlying330,a105:=Tryz.isAgg330,z105:=Tryz.sizeOf330,v105:=Tryz.zeroValue330,t119:=Tryz.underlying406,a119:=Tryz.isAgg406,z119:=Tryz.sizeOf406,t138:=Tryz.underlying408,a138:=Tryz.isAgg408,z138:=Tryz.sizeOf408,v138:=Tryz.zeroValue408,t139:=Tryz.underlying409,a139:=Tryz.isAgg409,z139:=Tryz.sizeOf409,v139:=Tryz.zeroValue409,t146:=Tryz.underlying327,a146:=Tryz.isAgg327,z146:=Tryz.sizeOf327,v146:=Tryz.zeroValue327,g1:=by kernel_rfl,g3:=by kernel_rfl,g4:=by kernel_rfl }
def zoh:Ren:={ f:=fun | 172=>182 | 244=>227 | 245=>228 | 247=>279 | 279=>280 | 280=>281 | 281=>282 | 282=>283 | 287=>315 | 316=>316 | 171=>129 | 205=>317 | 321=>336 | 322=>337 | 243=>184 | 246=>229 | 283=>284 | 284=>285 | 285=>286 | 286=>287 | 129=>319 | 317=>318 | 318=>320 | 319=>321 | 320=>322 | 337=>338 | 338=>339 | n=>n,t:=fun | 9=>9 | 3=>3 | 75=>39 | 76=>49 | 4=>4 | 5=>5 | 167=>374 | 37=>29 | 0=>0 | 85=>375 | 2=>2 | 168=>377 | 53=>355 | 175=>410 | 46=>251 | 210=>413 | 127=>118 | 145=>428 | 143=>426 | 21=>21 | 171=>380 | 173=>383 | 212=>416 | 51=>326 | 20=>20 | 213=>417 | 232=>309 | 233=>439 | 80=>52 | n=>n,g:=fun | 15=>5 | 16=>6 | 17=>7 | 18=>8 | 19=>9 | n=>n }
theorem zqF:LaysC.n172 Tryz.prog zoh:={ mixed:=by kernel_rfl,f129:=Tryz.func319.trans rfl,f171:=Tryz.func129.trans rfl,f172:=Tryz.func182.trans rfl,f205:=Tryz.func317.trans rfl,f243:=Tryz.func184.trans rfl,f244:=Tryz.func227.trans rfl,f245:=Tryz.func228.trans rfl,f246:=Tryz.func229.trans rfl,f247:=Tryz.func279.trans rfl,f279:=Tryz.func280.trans rfl,f280:=Tryz.func281.trans rfl,f281:=Tryz.func282.trans rfl,f282:=Tryz.func283.trans rfl,f283:=Tryz.func284.trans rfl,f284:=Tryz.func285.trans rfl,f285:=Tryz.func286.trans rfl,f286:=Tryz.func287.trans rfl,f287:=Tryz.func315.trans rfl,f316:=Tryz.func316.trans rfl,f317:=Tryz.func318.trans rfl,f318:=Tryz.func320.trans rfl,f319:=Tryz.func321.trans rfl,f320:=Tryz.func322.trans rfl,f321:=Tryz.func336.trans rfl,f322:=Tryz.func337.trans rfl,f337:=Tryz.func338.trans rfl,f338:=Tryz.func339.trans rfl,t0:=Tryz.underlying0,a0:=Tryz.isAgg0,z0:=Tryz.sizeOf0,v0:=Tryz.zeroValue0,t2:=Tryz.underlying2,a2:=Tryz.isAgg2,z2:=Tryz.sizeOf2,v2:=Tryz.zeroValue2,t3:=Tryz.underlying3,a3:=Tryz.isAgg3,z3:=Tryz.sizeOf3,v3:=Tryz.zeroValue3,t4:=Tryz.underlying4,a4:=Tryz.isAgg4,z4:=Tryz.sizeOf4,v4:=Tryz.zeroValue4,t5:=Tryz.underlying5,a5:=Tryz.isAgg5,z5:=Tryz.sizeOf5,v5:=Tryz.zeroValue5,t9:=Tryz.underlying9,a9:=Tryz.isAgg9,z9:=Tryz.sizeOf9,v9:=Tryz.zeroValue9,t20:=Tryz.underlying20,a20:=Tryz.isAgg20,z20:=Tryz.sizeOf20,v20:=Tryz.zeroValue20,t21:=Tryz.underlying21,a21:=Tryz.isAgg21,z21:=Tryz.sizeOf21,v21:=Tryz.zeroValue21,t37:=Tryz.underlying29,a37:=Tryz.isAgg29,z37:=Tryz.sizeOf29,v37:=Tryz.zeroValue29,t46:=Tryz.underlying251,a46:=Tryz.isAgg251,z46:=Tryz.sizeOf251,v46:=Tryz.zeroValue251,t51:=Tryz.underlying326,a51:=Tryz.isAgg326,z51:=Tryz.sizeOf326,v51:=Tryz.zeroValue326,t53:=Tryz.underlying355,a53:=Tryz.isAgg355,z53:=Tryz.sizeOf355,v53:=Tryz.zeroValue355,t75:=Tryz.underlying39,a75:=Tryz.isAgg39,z75:=Tryz.sizeOf39,v75:=Tryz.zeroValue39,t76:=Tryz.underlying49,a76:=Tryz.isAgg49,z76:=Tryz.sizeOf49,v76:=Tryz.zeroValue49,t85:=Tryz.underlying375,a85:=Tryz.isAgg375,z85:=Tryz.sizeOf375,v85:=Tryz.zeroValue375,t127:=Tryz.underlying118,a127:=Tryz.isAgg118,z127:=Tryz.sizeOf118,v127:=Tryz.zeroValue118,t143:=Tryz.underlying426,a143:=Tryz.isAgg426,z143:=Tryz.sizeOf426,v143:=Tryz.zeroValue426,t145:=Tryz.underlying428,a145:=Tryz.isAgg428,z145:=Tryz.sizeOf428,v145:=Tryz.zeroValue428,t167:=Tryz.underlying374,a167:=Tryz.isAgg374,z167:=Tryz.sizeOf374,v167:=Tryz.zeroValue374,t168:=Tryz.underlying377,a168:=Tryz.isAgg377,z168:=Tryz.sizeOf377,v168:=Tryz.zeroValue377,t171:=Tryz.underlying380,a171:=Tryz.isAgg380,z171:=Tryz.sizeOf380,v171:=Tryz.zeroValue380,t173:=Tryz.underlying383,a173:=Tryz.isAgg383,z173:=Tryz.sizeOf383,v173:=Tryz.zeroValue383,t175:=Tryz.underlying410,a175:=Tryz.isAgg410,z175:=Tryz.sizeOf410,v175:=Tryz.zeroValue410,t210:=Tryz.underlying413,a210:=Tryz.isAgg413,z210:=Tryz.sizeOf413,v210:=Tryz.zeroValue413,t212:=Tryz.underlying416,a212:=Tryz.isAgg416,z212:=Tryz.sizeOf416,v212:=Tryz.zeroValue416,t213:=Tryz.underlying417,a213:=Tryz.isAgg417,z213:=Tryz.sizeOf417,t232:=Tryz.underlying309,a232:=Tryz.isAgg309,z232:=Tryz.sizeOf309,v232:=Tryz.zeroValue309,t233:=Tryz.underlying439,a233:=Tryz.isAgg439,z233:=Tryz.sizeOf439,v233:=Tryz.zeroValue439,g15:=by kernel_rfl,g16:=by kernel_rfl,g17:=by kernel_rfl,g18:=by kernel_rfl,g19:=by kernel_rfl,t80:=Tryz.underlying52,a80:=Tryz.isAgg52,z80:=Tryz.sizeOf52,v80:=Tryz.zeroValue52,i0:=by kernel_rfl,i2:=by kernel_rfl,i3:=by kernel_rfl,i4:=by kernel_rfl,i5:=by kernel_rfl,i9:=by kernel_rfl,i20:=by kernel_rfl,i21:=by kernel_rfl,i37:=by kernel_rfl,i46:=by kernel_rfl,i51:=by kernel_rfl,i53:=by kernel_rfl,i75:=by kernel_rfl,i76:=by kernel_rfl,i80:=by kernel_rfl,i85:=by kernel_rfl,i127:=by kernel_rfl,i143:=by kernel_rfl,i145:=by kernel_rfl,i167:=by kernel_rfl,i168:=by kernel_rfl,i171:=by kernel_rfl,i173:=by kernel_rfl,i175:=by kernel_rfl,i210:=by kernel_rfl,i212:=by kernel_rfl,i232:=by kernel_rfl,i233:=by kernel_rfl,m15:=by kernel_rfl,m16:=by kernel_rfl,m17:=by kernel_rfl,m18:=by kernel_rfl,m19:=by kernel_rfl,c0:=by kernel_rfl,c2:=by kernel_rfl,c3:=by kernel_rfl,c4:=by kernel_rfl,c5:=by kernel_rfl,c9:=by kernel_rfl,c20:=by kernel_rfl,c21:=by kernel_rfl,c37:=by kernel_rfl,c46:=by kernel_rfl,c51:=by kernel_rfl,c53:=by kernel_rfl,c75:=by kernel_rfl,c76:=by kernel_rfl,c80:=by kernel_rfl,c85:=by kernel_rfl,c127:=by kernel_rfl,c143:=by kernel_rfl,c145:=by kernel_rfl,c167:=by kernel_rfl,c168:=by kernel_rfl,c171:=by kernel_rfl,c173:=by kernel_rfl,c175:=by kernel_rfl,c210:=by kernel_rfl,c212:=by kernel_rfl,c213:=by kernel_rfl,c232:=by kernel_rfl,c233:=by kernel_rfl }
def zn9:Ren:={ f:=fun | 137=>183 | 217=>175 | 266=>222 | n=>n,t:=fun | 9=>9 | 5=>5 | 3=>3 | n=>n,g:=fun n=>n }
theorem zz9:Lays.n137 Tryz.prog zn9:={ mixed:=by kernel_rfl,f137:=Tryz.func183.trans rfl,f217:=Tryz.func175.trans rfl,f266:=Tryz.func222.trans rfl,t3:=Tryz.underlying3,a3:=Tryz.isAgg3,z3:=Tryz.sizeOf3,v3:=Tryz.zeroValue3,t5:=Tryz.underlying5,a5:=Tryz.isAgg5,z5:=Tryz.sizeOf5,v5:=Tryz.zeroValue5,t9:=Tryz.underlying9,a9:=Tryz.isAgg9,z9:=Tryz.sizeOf9,v9:=Tryz.zeroValue9 }
def zog:Ren:={ f:=fun | 171=>129 | 243=>184 | 246=>229 | 283=>284 | 284=>285 | 285=>286 | 286=>287 | 129=>319 | 317=>318 | 318=>320 | 319=>321 | 320=>322 | 337=>338 | 338=>339 | n=>n,t:=fun | 3=>3 | 9=>9 | 2=>2 | 4=>4 | 171=>380 | 0=>0 | 53=>355 | 37=>29 | 5=>5 | 173=>383 | 212=>416 | 51=>326 | 20=>20 | 213=>417 | 46=>251 | 232=>309 | 233=>439 | n=>n,g:=fun | 17=>7 | 18=>8 | 19=>9 | n=>n }
theorem zAh:LaysM.n171 Tryz.prog zog:={ mixed:=by kernel_rfl,f129:=Tryz.func319.trans rfl,f171:=Tryz.func129.trans rfl,f243:=Tryz.func184.trans rfl,f246:=Tryz.func229.trans rfl,f283:=Tryz.func284.trans rfl,f284:=Tryz.func285.trans rfl,f285:=Tryz.func286.trans rfl,f286:=Tryz.func287.trans rfl,f317:=Tryz.func318.trans rfl,f318:=Tryz.func320.trans rfl,f319:=Tryz.func321.trans rfl,f320:=Tryz.func322.trans rfl,f337:=Tryz.func338.trans rfl,f338:=Tryz.func339.trans rfl,t0:=Tryz.underlying0,a0:=Tryz.isAgg0,z0:=Tryz.sizeOf0,v0:=Tryz.zeroValue0,t2:=Tryz.underlying2,a2:=Tryz.isAgg2,z2:=Tryz.sizeOf2,v2:=Tryz.zeroValue2,t3:=Tryz.underlying3,a3:=Tryz.isAgg3,z3:=Tryz.sizeOf3,v3:=Tryz.zeroValue3,t4:=Tryz.underlying4,a4:=Tryz.isAgg4,z4:=Tryz.sizeOf4,v4:=Tryz.zeroValue4,t5:=Tryz.underlying5,a5:=Tryz.isAgg5,z5:=Tryz.sizeOf5,v5:=Tryz.zeroValue5,t9:=Tryz.underlying9,a9:=Tryz.isAgg9,z9:=Tryz.sizeOf9,v9:=Tryz.zeroValue9,t20:=Tryz.underlying20,a20:=Tryz.isAgg20,z20:=Tryz.sizeOf20,v20:=Tryz.zeroValue20,t37:=Tryz.underlying29,a37:=Tryz.isAgg29,z37:=Tryz.sizeOf29,v37:=Tryz.zeroValue29,t46:=Tryz.underlying251,a46:=Tryz.isAgg251,z46:=Tryz.sizeOf251,v46:=Tryz.zeroValue251,t51:=Tryz.underlying326,a51:=Tryz.isAgg326,z51:=Tryz.sizeOf326,v51:=Tryz.zeroValue326,t53:=Tryz.underlying355,a53:=Tryz.isAgg355,z53:=Tryz.sizeOf355,v53:=Tryz.zeroValue355,t171:=Tryz.underlying380,a171:=Tryz.isAgg380,z171:=Tryz.sizeOf380,v171:=Tryz.zeroValue380,t173:=Tryz.underlying383,a173:=Tryz.isAgg383,z173:=Tryz.sizeOf383,v173:=Tryz.zeroValue383,t212:=Tryz.underlying416,a212:=Tryz.isAgg416,z212:=Tryz.sizeOf416,v212:=Tryz.zeroValue416,t213:=Tryz.underlying417,a213:=Tryz.isAgg417,z213:=Tryz.sizeOf417,t232:=Tryz.underlying309,a232:=Tryz.isAgg309,z232:=Tryz.sizeOf309,v232:=Tryz.zeroValue309,t233:=Tryz.underlying439,a233:=Tryz.isAgg439,z233:=Tryz.sizeOf439,v233:=Tryz.zeroValue439,g17:=by kernel_rfl,g18:=by kernel_rfl,g19:=by kernel_rfl,i0:=by kernel_rfl,i2:=by kernel_rfl,i3:=by kernel_rfl,i4:=by kernel_rfl,i5:=by kernel_rfl,i9:=by kernel_rfl,i20:=by kernel_rfl,i37:=by kernel_rfl,i46:=by kernel_rfl,i51:=by kernel_rfl,i53:=by kernel_rfl,i171:=by kernel_rfl,i173:=by kernel_rfl,i212:=by kernel_rfl,i232:=by kernel_rfl,i233:=by kernel_rfl,m17:=by kernel_rfl,m18:=by kernel_rfl,m19:=by kernel_rfl }
def zgs:Ren:={ f:=fun | 169=>18 | n=>n,t:=fun | 70=>43 | 9=>9 | 0=>0 | 72=>45 | 37=>29 | 127=>118 | 3=>3 | 5=>5 | n=>n,g:=fun n=>n }
theorem ztn:Lays.n169 Tryz.prog zgs:={ mixed:=by kernel_rfl,f169:=Tryz.func18.trans rfl,t0:=Tryz.underlying0,a0:=Tryz.isAgg0,z0:=Tryz.sizeOf0,v0:=Tryz.zeroValue0,t3:=Tryz.underlying3,a3:=Tryz.isAgg3,z3:=Tryz.sizeOf3,v3:=Tryz.zeroValue3,t9:=Tryz.underlying9,a9:=Tryz.isAgg9,z9:=Tryz.sizeOf9,v9:=Tryz.zeroValue9,t37:=Tryz.underlying29,a37:=Tryz.isAgg29,z37:=Tryz.sizeOf29,v37:=Tryz.zeroValue29,t70:=Tryz.underlying43,a70:=Tryz.isAgg43,z70:=Tryz.sizeOf43,v70:=Tryz.zeroValue43,t72:=Tryz.underlying45,a72:=Tryz.isAgg45,z72:=Tryz.sizeOf45,v72:=Tryz.zeroValue45,t127:=Tryz.underlying118,a127:=Tryz.isAgg118,z127:=Tryz.sizeOf118,v127:=Tryz.zeroValue118 }
def zkJ:Ren:={ f:=fun | 241=>263 | 277=>304 | n=>n,t:=fun | 70=>43 | 3=>3 | 0=>0 | 72=>45 | 37=>29 | 5=>5 | n=>n,g:=fun n=>n }
theorem zDq:Lays.n241 Tryz.prog zkJ:={ mixed:=by kernel_rfl,f241:=Tryz.func263.trans rfl,f277:=Tryz.func304.trans rfl,t0:=Tryz.underlying0,a0:=Tryz.isAgg0,z0:=Tryz.sizeOf0,v0:=Tryz.zeroValue0,t3:=Tryz.underlying3,a3:=Tryz.isAgg3,z3:=Tryz.sizeOf3,v3:=Tryz.zeroValue3,t37:=Tryz.underlying29,a37:=Tryz.isAgg29,z37:=Tryz.sizeOf29,v37:=Tryz.zeroValue29,t70:=Tryz.underlying43,a70:=Tryz.isAgg43,z70:=Tryz.sizeOf43,v70:=Tryz.zeroValue43,t72:=Tryz.underlying45,a72:=Tryz.isAgg45,z72:=Tryz.sizeOf45,v72:=Tryz.zeroValue45 }
end Go.Proofs.YtchmlnmhbfaclaaGreatDoor
namespace Go.Proofs.YtchmlnmhbfaclaaGreatDoor
open Go.RowKit Go.Extern.Stop Go.Stop Go.Extern
set_option linter.unusedVariables false
theorem zjo(v:Value)(w:World):(ReflectliteType.typeOf #[.iface 426 v]).run Tryz.prog w=.ok (.iface 220 (.agg #[.pointer (some ⟨10,426,none⟩)])) w:=by kernel_rfl
def zxU:Array Value->Sem Value:=ReflectliteType.method fun t=>do
 Rtype.noPackHeld "Comparable" t
 pure (.bool (<- typeInfo t).comparable)
theorem zqP(w:World):(zxU #[.agg #[.pointer (some ⟨10,426,none⟩)]]).run Tryz.prog w=.ok (.bool true) w:=by kernel_rfl
theorem zdt(v:Value)(w:World):(Go.method 582 220 v "Comparable").run Tryz.prog w=.ok (393,v) w:=by kernel_rfl
theorem zqO:(Tryz.prog.info? 426).map (·.comparable)=some true:=by kernel_rfl
theorem zxR:(Tryz.prog.info? 428).map (·.size)=some 1:=by kernel_rfl
theorem zxT(v:Value)(xT:TypeId)(w:World):(Instr.typeAssert (.iface 107 v) xT 222 true).run Tryz.prog w=.ok (.tuple #[.nilIface,.bool false]) w:=run_typeAssert_lacksB Tryz.underlying222 (by kernel_rfl) (by kernel_rfl) v xT w
theorem zxS(v:Value)(xT:TypeId)(w:World):(Instr.typeAssert (.iface 107 v) xT 225 true).run Tryz.prog w=.ok (.tuple #[.nilIface,.bool false]) w:=run_typeAssert_lacksB Tryz.underlying225 (by kernel_rfl) (by kernel_rfl) v xT w
theorem zug(v:Value)(xT:TypeId)(w:World):(Instr.typeAssert (.iface 107 v) xT 226 true).run Tryz.prog w=.ok (.tuple #[.nilIface,.bool false]) w:=run_typeAssert_lacksB Tryz.underlying226 (by kernel_rfl) (by kernel_rfl) v xT w
theorem zBc(b:Addr)(w:World):Calls Tryz.prog 47 #[.nilIface,.iface 426 (.pointer (some b))] w fun e w'=>e=.returned (.bool false)/\w=w':=by
 have hn:=run_eql_iface_nil_left (P:=Tryz.prog) w 426 (.pointer (some b)) Tryz.underlying39
 go_enter Tryz.func47,Tryz.ntmps47
 go_wp2
 go_ret
 exact⟨rfl,rfl⟩
theorem zBd(b:Addr)(w:World):Calls Tryz.prog 47 #[.iface 426 (.pointer (some b)),.iface 426 (.pointer (some b))] w fun e w'=>e=.returned (.bool true)/\w=w':=by
 obtain⟨i,hi,hcmp⟩:=Option.map_eq_some_iff.1 zqO
 obtain⟨j,hj,hjs⟩:=Option.map_eq_some_iff.1 zxR
 have h1:=@run_callFunc_extern Tryz.prog 78 _ ReflectliteType.typeOf Tryz.func78 (by kernel_rfl) (by kernel_rfl) (by kernel_rfl) (by kernel_rfl)
 have h2:=@run_callFunc_extern Tryz.prog 393 _ zxU Tryz.func393 (by kernel_rfl) (by kernel_rfl) (by kernel_rfl) (by kernel_rfl)
 have tT:=zjo
 have cT:=zqP
 have mR:=zdt
 have heq:=run_eql_iface_ptr_same (P:=Tryz.prog) w b Tryz.underlying39 Tryz.underlying426 hi hcmp hj
 go_enter Tryz.func47,Tryz.ntmps47
 go_wp2
 refine wp_loop_rounds 1 ?_
 rw [rounds_succ]
 go_wp2
 go_ret
 exact⟨rfl,rfl⟩
theorem zvf(k:Int)(b:Addr)(w:World):Calls Tryz.prog 47 #[.iface 107 (.int .i64 k),.iface 426 (.pointer (some b))] w fun e w'=>e=.returned (.bool false)/\w=w':=by
 have h1:=@run_callFunc_extern Tryz.prog 78 _ ReflectliteType.typeOf Tryz.func78 (by kernel_rfl) (by kernel_rfl) (by kernel_rfl) (by kernel_rfl)
 have h2:=@run_callFunc_extern Tryz.prog 393 _ zxU Tryz.func393 (by kernel_rfl) (by kernel_rfl) (by kernel_rfl) (by kernel_rfl)
 have tT:=zjo
 have cT:=zqP
 have mR:=zdt
 have nI:=zxT
 have uI:=zxS
 have vI:=zug
 have hty:=run_eql_iface_types (P:=Tryz.prog) 107 426 (.int .i64 k) (.pointer (some b)) Tryz.underlying39 (by decide) w
 go_enter Tryz.func47,Tryz.ntmps47
 go_wp2
 refine wp_loop_rounds 1 ?_
 rw [rounds_succ]
 go_wp2
 go_ret
 exact⟨rfl,rfl⟩
def okS:ByteArray:=⟨#[111,107]⟩
def zzU:ByteArray:=⟨#[98,97,100]⟩
def enS(k:Int):ByteArray :=
 if k=0 then ⟨#[79,75]⟩
 else if k=1 then ⟨#[69,114,114,82,97,110,103,101]⟩
 else if k=2 then ⟨#[69,114,114,83,121,110,116,97,120]⟩
 else if k=3 then ⟨#[69,114,114,83,104,97,112,101]⟩
 else if k=4 then ⟨#[69,114,114,70,117,108,108]⟩
 else if k=5 then ⟨#[69,114,114,78,111,110,101]⟩
 else if k=6 then ⟨#[69,114,114,83,116,97,116,101]⟩
 else if k=7 then ⟨#[69,114,114,67,108,97,115,104]⟩
 else if k=8 then ⟨#[69,114,114,84,97,103]⟩
 else if k=9 then ⟨#[69,114,114,76,111,115,116]⟩
 else ⟨#[69,114,114,110,111]⟩
theorem zpn(k:Int)(w:World):Calls Tryz.prog 49 #[.int .i64 k] w fun e w'=>e=.returned (.string (enS k))/\w=w':=by
 unfold enS
 by_cases h0:k=0
 ·subst h0;go_enter Tryz.func49,Tryz.ntmps49;go_wp2;go_ret;exact⟨rfl,rfl⟩
 by_cases h1:k=1
 ·subst h1;go_enter Tryz.func49,Tryz.ntmps49;go_wp2;go_ret;exact⟨rfl,rfl⟩
 by_cases h2:k=2
 ·subst h2;go_enter Tryz.func49,Tryz.ntmps49;go_wp2;go_ret;exact⟨rfl,rfl⟩
 by_cases h3:k=3
 ·subst h3;go_enter Tryz.func49,Tryz.ntmps49;go_wp2;go_ret;exact⟨rfl,rfl⟩
 by_cases h4:k=4
 ·subst h4;go_enter Tryz.func49,Tryz.ntmps49;go_wp2;go_ret;exact⟨rfl,rfl⟩
 by_cases h5:k=5
 ·subst h5;go_enter Tryz.func49,Tryz.ntmps49;go_wp2;go_ret;exact⟨rfl,rfl⟩
 by_cases h6:k=6
 ·subst h6;go_enter Tryz.func49,Tryz.ntmps49;go_wp2;go_ret;exact⟨rfl,rfl⟩
 by_cases h7:k=7
 ·subst h7;go_enter Tryz.func49,Tryz.ntmps49;go_wp2;go_ret;exact⟨rfl,rfl⟩
 by_cases h8:k=8
 ·subst h8;go_enter Tryz.func49,Tryz.ntmps49;go_wp2;go_ret;exact⟨rfl,rfl⟩
 by_cases h9:k=9
 ·subst h9;go_enter Tryz.func49,Tryz.ntmps49;go_wp2;go_ret;exact⟨rfl,rfl⟩
 rw [if_neg h0,if_neg h1,if_neg h2,if_neg h3,if_neg h4,if_neg h5,if_neg h6,if_neg h7,if_neg h8,if_neg h9]
 go_enter Tryz.func49,Tryz.ntmps49
 go_wp2
 go_ret
 exact⟨rfl,rfl⟩
def tdS(k:Int):ByteArray:=if k=0 then okS else enS k
def bdV(b:Addr):Value:=.iface 426 (.pointer (some b))
def BdT(w:World)(b:Addr):Prop:=w.cell? ⟨0,0,none⟩=some (.iface 426 (.pointer (some b)))
theorem BdT.below{w w':World}{b:Addr}(h:BdT w b)(hb:Below w.heap.size w w'):BdT w' b:=by
 unfold BdT
 rw [hb.cell (block_lt_of_cell h)];exact h
theorem ztR(b:Addr)(w:World)(hb:BdT w b):Calls Tryz.prog 13 #[bdV b] w fun e w'=>e=.returned (.string zzU)/\Below w.heap.size w w':=by
 have hB:=(Below.refl w.heap.size w).alloc (Nat.le_refl _) (.cells #[.int .i64 0] 107)
 have hc:=hb.below hB
 unfold BdT at hc
 have HB:=zb hB
 clear hB hb
 unfold bdV
 go_enter Tryz.func13,Tryz.ntmps13
 go_wp2_with (go_at_call 47;refine(zBd b _).mono ?_;rintro e w' ⟨rfl,rfl⟩)
 go_ret
 exact⟨rfl,za HB⟩
theorem zBU(t:Addr)(w:World):Calls Tryz.prog 48 #[.nilIface,.iface 110 (.pointer (some t))] w fun e w'=>e=.returned (.bool false)/\w=w':=by
 go_enter Tryz.func48,Tryz.ntmps48
 go_wp2
 go_ret
 exact⟨rfl,rfl⟩
set_option maxRecDepth 100000 in
set_option maxHeartbeats 1000000 in
theorem QV(k:Int)(b:Addr)(w:World)(hb:BdT w b)(hg:ErrT w):Calls Tryz.prog 13 #[zK k] w fun e w'=>e=.returned (.string (tdS k))/\Below w.heap.size w w':=by
 have hB:=(Below.refl w.heap.size w).alloc (Nat.le_refl _) (.cells #[.int .i64 0] 107)
 have hc:=hb.below hB
 unfold BdT at hc
 unfold tdS
 by_cases h:k=0
 ·subst h
  rw [zf,if_pos rfl]
  have HB:=zb hB
  clear hB hb hg
  go_enter Tryz.func13,Tryz.ntmps13
  go_wp2_with fail
  refine(zBc b _).mono ?_
  rintro e w' ⟨rfl,rfl⟩
  go_wp2_with fail
  refine(zBU _ _).mono ?_
  rintro e w' ⟨rfl,rfl⟩
  go_wp2
  go_ret
  exact⟨rfl,za HB⟩
 ·rw [zh k h,if_neg h]
  have hgA:(w.alloc (.cells #[.int .i64 0] 107)).cell? ⟨1,0,none⟩=some (.iface 220 (.agg #[.pointer (some ⟨10,39,none⟩)])):=hg.below hB
  have htA:(w.alloc (.cells #[.int .i64 0] 107)).cell? ⟨w.heap.size,0,none⟩=some (.int .i64 0):=by simp
  have hfA:(w.alloc (.cells #[.int .i64 0] 107)).frozen? ⟨w.heap.size,0,none⟩=false:=by simp
  have has:=zwf k ⟨w.heap.size,0,none⟩ (.int .i64 0) _ hgA htA hfA
  have HAS:=zb has
  clear has hgA htA hfA hg hB hb h
  go_enter Tryz.func13,Tryz.ntmps13
  go_wp2_with fail
  refine(zvf k b _).mono ?_
  rintro e w' ⟨rfl,rfl⟩
  go_wp2_with fail
  refine(za HAS).mono ?_
  rintro e w1 ⟨rfl,rfl⟩
  go_wp2_with (go_at_call 49;refine(zpn k _).mono ?_;rintro e w' ⟨rfl,rfl⟩)
  go_ret
  exact⟨rfl,(((((Below.refl _ _).alloc (Nat.le_refl _) _).alloc (by simp) _).alloc (by simp;omega) _).alloc (by simp;omega) _).alloc (by simp;omega) _⟩
end Go.Proofs.YtchmlnmhbfaclaaGreatDoor
namespace Go.Proofs.YtchmlnmhbfaclaaGreatDoor
open Go.RowKit
set_option linter.unusedVariables false
def zeN:ByteArray:=⟨#[110,101,119]⟩
def zbV:ByteArray:=⟨#[102,114,101,101]⟩
def zgA:ByteArray:=⟨#[99,117,116]⟩
def Qa:ByteArray:=⟨#[119,114,105,116,101]⟩
def ZK:ByteArray:=⟨#[114,101,97,100]⟩
def ziQ:ByteArray:=⟨#[115,101,116]⟩
def Zz:ByteArray:=⟨#[117,110,115,101,116]⟩
def ziR:ByteArray:=⟨#[103,101,116]⟩
def Qe:ByteArray:=⟨#[99,111,109,109,105,116]⟩
def ZC:ByteArray:=⟨#[97,98,111,114,116]⟩
def ZB:ByteArray:=⟨#[115,116,97,109,112]⟩
def Zl:ByteArray:=⟨#[99,114,97,115,104]⟩
def zbU:ByteArray:=⟨#[112,97,99,107]⟩
def ZA:ByteArray:=⟨#[115,119,101,101,112]⟩
def zbT:ByteArray:=⟨#[115,116,97,116]⟩
def fmO(s:ByteArray):Option ByteArray :=
 if s=zeN then some ⟨#[78,78]⟩
 else if s=zbV then some ⟨#[78]⟩
 else if s=zgA then some ⟨#[78]⟩
 else if s=Qa then some ⟨#[78,78,72]⟩
 else if s=ZK then some ⟨#[78,78,78]⟩
 else if s=ziQ then some ⟨#[65,78]⟩
 else if s=Zz then some ⟨#[65]⟩
 else if s=ziR then some ⟨#[65]⟩
 else if s=Qe then some ⟨#[]⟩
 else if s=ZC then some ⟨#[]⟩
 else if s=ZB then some ⟨#[]⟩
 else if s=Zl then some ⟨#[]⟩
 else if s=zbU then some ⟨#[]⟩
 else if s=ZA then some ⟨#[]⟩
 else if s=zbT then some ⟨#[]⟩
 else none
theorem zAT{s:ByteArray}(h:s≠zeN):(s.toList == [110,101,119])=false:=by simpa [zeN] using QW h
theorem zyn{s:ByteArray}(h:s≠zbV):(s.toList == [102,114,101,101])=false:=by simpa [zbV] using QW h
theorem zAV{s:ByteArray}(h:s≠zgA):(s.toList == [99,117,116])=false:=by simpa [zgA] using QW h
theorem zuS{s:ByteArray}(h:s≠Qa):(s.toList == [119,114,105,116,101])=false:=by simpa [Qa] using QW h
theorem zyl{s:ByteArray}(h:s≠ZK):(s.toList == [114,101,97,100])=false:=by simpa [ZK] using QW h
theorem zAS{s:ByteArray}(h:s≠ziQ):(s.toList == [115,101,116])=false:=by simpa [ziQ] using QW h
theorem zuT{s:ByteArray}(h:s≠Zz):(s.toList == [117,110,115,101,116])=false:=by simpa [Zz] using QW h
theorem zAU{s:ByteArray}(h:s≠ziR):(s.toList == [103,101,116])=false:=by simpa [ziR] using QW h
theorem zrw{s:ByteArray}(h:s≠Qe):(s.toList == [99,111,109,109,105,116])=false:=by simpa [Qe] using QW h
theorem zuX{s:ByteArray}(h:s≠ZC):(s.toList == [97,98,111,114,116])=false:=by simpa [ZC] using QW h
theorem zuV{s:ByteArray}(h:s≠ZB):(s.toList == [115,116,97,109,112])=false:=by simpa [ZB] using QW h
theorem zuW{s:ByteArray}(h:s≠Zl):(s.toList == [99,114,97,115,104])=false:=by simpa [Zl] using QW h
theorem zym{s:ByteArray}(h:s≠zbU):(s.toList == [112,97,99,107])=false:=by simpa [zbU] using QW h
theorem zuU{s:ByteArray}(h:s≠ZA):(s.toList == [115,119,101,101,112])=false:=by simpa [ZA] using QW h
theorem zyk{s:ByteArray}(h:s≠zbT):(s.toList == [115,116,97,116])=false:=by simpa [zbT] using QW h
def fmV(s:ByteArray)(b:Addr):Value:=match fmO s with | some f=>.tuple #[.string f,.nilIface] | none=>.tuple #[.string ⟨#[]⟩,bdV b]
set_option maxRecDepth 100000 in
set_option maxHeartbeats 4000000 in
theorem zpf(s:ByteArray)(b:Addr)(w:World)(hb:BdT w b):Calls Tryz.prog 87 #[.string s] w fun e w'=>e=.returned (fmV s b)/\Below w.heap.size w w':=by
 unfold BdT at hb
 by_cases h0:s=zeN
 ·subst h0
  have e:fmV zeN b=.tuple #[.string ⟨#[78,78]⟩,.nilIface]:=by unfold fmV fmO;rfl
  rw [e]
  unfold zeN
  clear e hb
  go_enter Tryz.func87,Tryz.ntmps87
  go_wp2
  go_ret2
  exact⟨rfl,Below.refl _ _⟩
 by_cases h1:s=zbV
 ·subst h1
  have e:fmV zbV b=.tuple #[.string ⟨#[78]⟩,.nilIface]:=by unfold fmV fmO;rfl
  rw [e]
  unfold zbV
  clear e hb h0
  go_enter Tryz.func87,Tryz.ntmps87
  go_wp2
  go_ret2
  exact⟨rfl,Below.refl _ _⟩
 by_cases h2:s=zgA
 ·subst h2
  have e:fmV zgA b=.tuple #[.string ⟨#[78]⟩,.nilIface]:=by unfold fmV fmO;rfl
  rw [e]
  unfold zgA
  clear e hb h0 h1
  go_enter Tryz.func87,Tryz.ntmps87
  go_wp2
  go_ret2
  exact⟨rfl,Below.refl _ _⟩
 by_cases h3:s=Qa
 ·subst h3
  have e:fmV Qa b=.tuple #[.string ⟨#[78,78,72]⟩,.nilIface]:=by unfold fmV fmO;rfl
  rw [e]
  unfold Qa
  clear e hb h0 h1 h2
  go_enter Tryz.func87,Tryz.ntmps87
  go_wp2
  go_ret2
  exact⟨rfl,Below.refl _ _⟩
 by_cases h4:s=ZK
 ·subst h4
  have e:fmV ZK b=.tuple #[.string ⟨#[78,78,78]⟩,.nilIface]:=by unfold fmV fmO;rfl
  rw [e]
  unfold ZK
  clear e hb h0 h1 h2 h3
  go_enter Tryz.func87,Tryz.ntmps87
  go_wp2
  go_ret2
  exact⟨rfl,Below.refl _ _⟩
 by_cases h5:s=ziQ
 ·subst h5
  have e:fmV ziQ b=.tuple #[.string ⟨#[65,78]⟩,.nilIface]:=by unfold fmV fmO;rfl
  rw [e]
  unfold ziQ
  clear e hb h0 h1 h2 h3 h4
  go_enter Tryz.func87,Tryz.ntmps87
  go_wp2
  go_ret2
  exact⟨rfl,Below.refl _ _⟩
 by_cases h6:s=Zz
 ·subst h6
  have e:fmV Zz b=.tuple #[.string ⟨#[65]⟩,.nilIface]:=by unfold fmV fmO;rfl
  rw [e]
  unfold Zz
  clear e hb h0 h1 h2 h3 h4 h5
  go_enter Tryz.func87,Tryz.ntmps87
  go_wp2
  go_ret2
  exact⟨rfl,Below.refl _ _⟩
 by_cases h7:s=ziR
 ·subst h7
  have e:fmV ziR b=.tuple #[.string ⟨#[65]⟩,.nilIface]:=by unfold fmV fmO;rfl
  rw [e]
  unfold ziR
  clear e hb h0 h1 h2 h3 h4 h5 h6
  go_enter Tryz.func87,Tryz.ntmps87
  go_wp2
  go_ret2
  exact⟨rfl,Below.refl _ _⟩
 by_cases h8:s=Qe
 ·subst h8
  have e:fmV Qe b=.tuple #[.string ⟨#[]⟩,.nilIface]:=by unfold fmV fmO;rfl
  rw [e]
  unfold Qe
  clear e hb h0 h1 h2 h3 h4 h5 h6 h7
  go_enter Tryz.func87,Tryz.ntmps87
  go_wp2
  go_ret2
  exact⟨rfl,Below.refl _ _⟩
 by_cases h9:s=ZC
 ·subst h9
  have e:fmV ZC b=.tuple #[.string ⟨#[]⟩,.nilIface]:=by unfold fmV fmO;rfl
  rw [e]
  unfold ZC
  clear e hb h0 h1 h2 h3 h4 h5 h6 h7 h8
  go_enter Tryz.func87,Tryz.ntmps87
  go_wp2
  go_ret2
  exact⟨rfl,Below.refl _ _⟩
 by_cases h10:s=ZB
 ·subst h10
  have e:fmV ZB b=.tuple #[.string ⟨#[]⟩,.nilIface]:=by unfold fmV fmO;rfl
  rw [e]
  unfold ZB
  clear e hb h0 h1 h2 h3 h4 h5 h6 h7 h8 h9
  go_enter Tryz.func87,Tryz.ntmps87
  go_wp2
  go_ret2
  exact⟨rfl,Below.refl _ _⟩
 by_cases h11:s=Zl
 ·subst h11
  have e:fmV Zl b=.tuple #[.string ⟨#[]⟩,.nilIface]:=by unfold fmV fmO;rfl
  rw [e]
  unfold Zl
  clear e hb h0 h1 h2 h3 h4 h5 h6 h7 h8 h9 h10
  go_enter Tryz.func87,Tryz.ntmps87
  go_wp2
  go_ret2
  exact⟨rfl,Below.refl _ _⟩
 by_cases h12:s=zbU
 ·subst h12
  have e:fmV zbU b=.tuple #[.string ⟨#[]⟩,.nilIface]:=by unfold fmV fmO;rfl
  rw [e]
  unfold zbU
  clear e hb h0 h1 h2 h3 h4 h5 h6 h7 h8 h9 h10 h11
  go_enter Tryz.func87,Tryz.ntmps87
  go_wp2
  go_ret2
  exact⟨rfl,Below.refl _ _⟩
 by_cases h13:s=ZA
 ·subst h13
  have e:fmV ZA b=.tuple #[.string ⟨#[]⟩,.nilIface]:=by unfold fmV fmO;rfl
  rw [e]
  unfold ZA
  clear e hb h0 h1 h2 h3 h4 h5 h6 h7 h8 h9 h10 h11 h12
  go_enter Tryz.func87,Tryz.ntmps87
  go_wp2
  go_ret2
  exact⟨rfl,Below.refl _ _⟩
 by_cases h14:s=zbT
 ·subst h14
  have e:fmV zbT b=.tuple #[.string ⟨#[]⟩,.nilIface]:=by unfold fmV fmO;rfl
  rw [e]
  unfold zbT
  clear e hb h0 h1 h2 h3 h4 h5 h6 h7 h8 h9 h10 h11 h12 h13
  go_enter Tryz.func87,Tryz.ntmps87
  go_wp2
  go_ret2
  exact⟨rfl,Below.refl _ _⟩
 have e:fmV s b=.tuple #[.string ⟨#[]⟩,bdV b]:=by unfold fmV fmO;rw [if_neg h0,if_neg h1,if_neg h2,if_neg h3,if_neg h4,if_neg h5,if_neg h6,if_neg h7,if_neg h8,if_neg h9,if_neg h10,if_neg h11,if_neg h12,if_neg h13,if_neg h14]
 rw [e]
 unfold bdV
 have b0:=zAT h0
 have b1:=zyn h1
 have b2:=zAV h2
 have b3:=zuS h3
 have b4:=zyl h4
 have b5:=zAS h5
 have b6:=zuT h6
 have b7:=zAU h7
 have b8:=zrw h8
 have b9:=zuX h9
 have b10:=zuV h10
 have b11:=zuW h11
 have b12:=zym h12
 have b13:=zuU h13
 have b14:=zyk h14
 clear e h0 h1 h2 h3 h4 h5 h6 h7 h8 h9 h10 h11 h12 h13 h14
 go_enter Tryz.func87,Tryz.ntmps87
 go_wp2_with fail
 go_quiet (fail)
 go_wp2
 go_ret2
 exact⟨rfl,below_drewN (Below.refl _ _) _⟩
end Go.Proofs.YtchmlnmhbfaclaaGreatDoor
namespace Go.Proofs.YtchmlnmhbfaclaaGreatDoor
open Go.RowKit Go.Shelf
set_option linter.unusedVariables false
structure RnW (w:World) (b:Addr):Prop where
 et:ErrT w
 bd:BdT w b
 ml:∃ m,w.cell? ⟨2,0,none⟩=some (.int .i64 m)
 pw:Go.Lib.TabIs Tryz.prog w "internal/strconv.uint64pow10" .u64 Go.Lib.pow10Tab
 sx:∃ t p,w.cell? ⟨5,0,none⟩=some (.iface t p)
 rg:∃ t p,w.cell? ⟨6,0,none⟩=some (.iface t p)
theorem zrd:Tryz.prog.globalNamed "internal/strconv.uint64pow10" = some 7:=by kernel_rfl
theorem cell_below{w w':World}{a:Addr}{v:Value}(h:w.cell? a=some v)(hb:Below w.heap.size w w'):w'.cell? a=some v:=by
 rw [hb.cell (block_lt_of_cell h)];exact h
theorem RnW.below{w w':World}{b:Addr}(h:RnW w b)(hb:Below w.heap.size w w'):RnW w' b:=by
 obtain⟨m,hm⟩:=h.ml
 obtain⟨t1,p1,h1⟩:=h.sx
 obtain⟨t2,p2,h2⟩:=h.rg
 exact⟨h.et.below hb,h.bd.below hb,⟨m,cell_below hm hb⟩,Go.Joins.var_stays zrd h.pw hb (Nat.le_refl _),⟨t1,p1,cell_below h1 hb⟩,⟨t2,p2,cell_below h2 hb⟩⟩
section
variable {w:World} {b:Addr}
def tx(l:List UInt8):ByteArray:=⟨l.toArray⟩
theorem zze(hw:RnW w b)(s sep:ByteArray)(hs:s.size<=3000) :
  Calls Tryz.prog 51 #[.string s,.string sep] w fun e w'=>e=.returned (.tuple #[.string (tx (Go.Lib.cut s.data.toList sep.data.toList).1),.string (tx (Go.Lib.cut s.data.toList sep.data.toList).2.1),.bool (Go.Lib.cut s.data.toList sep.data.toList).2.2])/\Below w.heap.size w w':=by
 obtain⟨m,hm⟩:=hw.ml
 refine(Any.strings_Cut zAa s sep m w (by omega) hm).mono ?_
 rintro e w' ⟨rfl,n,rfl⟩
 exact⟨rfl,below_drewN (Below.refl _ _) _⟩
theorem zj5:(Tryz.prog.info? 9).map (fun i=>(i.zero,i.size,i.bytes))=some (some (.string ByteArray.empty),1,16):=by kernel_rfl
def wdS(s:ByteArray):List ByteArray:=Go.Lib.splitB ⟨#[32]⟩ 0 (Go.Lib.countB s ⟨#[32]⟩) s
theorem zkO(s:ByteArray):(wdS s).length=Go.Lib.countB s ⟨#[32]⟩+1:=Go.Lib.splitB_all ⟨#[32]⟩ (by decide) 0 _ s rfl
theorem zqp(hw:RnW w b)(s:ByteArray)(hs:s.size<=3000) :
  Calls Tryz.prog 86 #[.string s,.string ⟨#[32]⟩] w fun e w'=>e=.returned (.slice (some ⟨w.heap.size,0,none⟩) (wdS s).length (wdS s).length)/\w'=w.alloc (.cells ((wdS s).map Value.string).toArray 9):=by
 obtain⟨m,hm⟩:=hw.ml
 refine(Any.strings_Split ztX zj5 s ⟨#[32]⟩ m w (by omega) hm (by decide)).mono ?_
 rintro e w' ⟨rfl,rfl⟩
 rw [zkO]
 exact⟨rfl,rfl⟩
theorem zwe(hw:RnW w b)(s:ByteArray)(hs:s.size<=3000) :
  Calls Tryz.prog 182 #[.string s] w fun e w'=>((∃ v,Go.Lib.atoiAll s.data.toList=.ok v/\e=.returned (.tuple #[.int .i64 v,.nilIface]))\/((∀ v,Go.Lib.atoiAll s.data.toList≠.ok v)/\∃ z t p,e=.returned (.tuple #[.int .i64 z,.iface t p])))/\Below w.heap.size w w':=by
 obtain⟨t1,p1,h1⟩:=hw.sx
 obtain⟨t2,p2,h2⟩:=hw.rg
 cases hq:Go.Lib.atoiAll s.data.toList with
 | ok v =>
  refine(Any.strconv_Atoi_ok zqF s (by omega) v hq w).mono ?_
  rintro e w' ⟨rfl,hx⟩
  refine⟨.inl ⟨v,rfl,rfl⟩,?_⟩
  rcases hx with rfl | ⟨t,rfl⟩
  ·exact Below.refl _ _
  ·exact Go.Lib.bytesWorld_below _ _ _
 | range =>
  refine(Any.strconv_Atoi_range zqF s (by omega) hq _ w h2 (.inr ⟨_,_,rfl⟩)).mono ?_
  rintro e w' ⟨N,rfl,_,_,hb⟩
  exact⟨.inr ⟨(fun v h=>by cases h),_,_,_,rfl⟩,hb⟩
 | _ =>
  refine(Any.strconv_Atoi_syntax zqF s (by omega) hq _ w h1 (.inr ⟨_,_,rfl⟩)).mono ?_
  rintro e w' ⟨N,rfl,_,_,hb⟩
  exact⟨.inr ⟨(fun v h=>by cases h),_,_,_,rfl⟩,hb⟩
def itB(n:Int):ByteArray:=tx (Go.Lib.itoa n)
theorem zbB(hw:RnW w b)(n:Int)(h0:-9223372036854775808<=n)(h1:n<=9223372036854775807) :
  Calls Tryz.prog 129 #[.int .i64 n] w fun e w'=>e=.returned (.string (itB n))/\Below w.heap.size w w':=by
 refine(Any.strconv_Itoa zAh n h0 h1 w hw.pw).mono ?_
 rintro e w' ⟨rfl,k,os,rfl⟩
 exact⟨rfl,Go.Lib.below_grow _ w (Nat.le_refl _) k os⟩
theorem zij(s:ByteArray)(c:Int)(w:World):Calls Tryz.prog 183 #[.string s,.int .u8 c] w fun e w'=>e=.returned (.int .i64 (Go.Lib.indexByte s.data.toList c.toNat.toUInt8))/\w=w':=by
 refine(Any.strings_IndexByte zz9 s c w).mono ?_
 rintro e w' ⟨rfl,rfl⟩
 exact⟨rfl,rfl⟩
def rdN(s:ByteArray):Option Int:=match Go.Lib.atoiAll s.data.toList with | .ok v=>if itB v=s/\-999999999<=v/\v<=999999999 then some v else none | _=>none
def zuv(s:ByteArray)(b:Addr):Value:=match rdN s with | some v=>.tuple #[.int .i64 v,.nilIface] | none=>.tuple #[.int .i64 0,bdV b]
theorem zzp{l:List UInt8}{v:Int}(h:Go.Lib.atoiAll l=.ok v):-9223372036854775808<=v/\v<=9223372036854775807:=by
 cases l with
 | nil=>cases h
 | cons c r =>
  unfold Go.Lib.atoiAll at h
  dsimp only at h
  split at h
  ·cases h
  ·cases h
  ·rename_i u _
   split at h
   ·cases h
   ·rename_i h1
    split at h
    ·cases h
    ·rename_i h2
     injection h with h
     subst h
     by_cases hn:c.toNat=45
     ·rw [if_pos hn]
      have:¬ 9223372036854775808<u:=fun hu=>h2 ⟨hn,hu⟩
      omega
     ·rw [if_neg hn]
      have:¬ 9223372036854775808<=u:=fun hu=>h1 ⟨hn,hu⟩
      omega
theorem zAz{s:ByteArray}(h:∀ v,Go.Lib.atoiAll s.data.toList≠.ok v):rdN s=none:=by
 unfold rdN
 cases hq:Go.Lib.atoiAll s.data.toList with
 | ok v=>exact absurd hq (h v)
 | _=>rfl
theorem zAy{s:ByteArray}{v:Int}(h:Go.Lib.atoiAll s.data.toList=.ok v):rdN s=if itB v=s/\-999999999<=v/\v<=999999999 then some v else none:=by
 unfold rdN
 rw [h]
set_option maxRecDepth 100000 in
set_option maxHeartbeats 1000000 in
theorem zgD(hw:RnW w b)(s:ByteArray)(hs:s.size<=3000):Calls Tryz.prog 127 #[.string s] w fun e w'=>e=.returned (zuv s b)/\Below w.heap.size w w':=by
 have HI:=zb (fun(n:Int) (h0:-9223372036854775808<=n) (h1:n<=9223372036854775807) (W:World) (hW:Below w.heap.size w W)=>zbB (hw.below hW) n h0 h1)
 have HBD:=zb (fun(W:World) (hW:Below w.heap.size w W)=>(hw.bd.below hW))
 have hA:=zwe hw s hs
 clear hw
 by_cases hq:∃ v,Go.Lib.atoiAll s.data.toList=.ok v
 ·obtain⟨v,hv⟩:=hq
  obtain⟨v0,v1⟩:=zzp hv
  have HA:Hid (Calls Tryz.prog 182 #[.string s] w fun e w'=>e=.returned (.tuple #[.int .i64 v,.nilIface])/\Below w.heap.size w w'):=zb (hA.mono (fun e w' h=>by
   obtain⟨h1 | h1,hb⟩:=h
   ·obtain⟨v',hv',he⟩:=h1
    rw [hv] at hv'
    injection hv' with hv'
    subst hv'
    exact⟨he,hb⟩
   ·exact absurd hv (h1.1 v)))
  have HC:=zb (fun(W:World) (hW:Below w.heap.size w W)=>za HI v v0 v1 W hW)
  have hr:=zAy hv
  by_cases hc:itB v=s/\-999999999<=v/\v<=999999999
  ·rw [if_pos hc] at hr
   have e:zuv s b=.tuple #[.int .i64 v,.nilIface]:=by unfold zuv;rw [hr]
   rw [e]
   obtain⟨c1,c2,c3⟩:=hc
   have hb1:((itB v).toList == s.toList)=true:=zfk.2 c1
   have c2':¬ v < -999999999:=by omega
   have c3':¬ v > 999999999:=by omega
   clear hA HI hr e c1
   generalize itB v=I at *
   go_enter Tryz.func127,Tryz.ntmps127
   go_wp2_with fail
   refine(za HA).mono ?_
   rintro e w1 ⟨rfl,hb1⟩
   have HC1:=zb (za HC w1 hb1)
   have HB1:=zb hb1
   clear HA hb1 HC
   go_wp2_with fail
   refine(za HC1).mono ?_
   rintro e w2 ⟨rfl,hb2⟩
   have HB2:=zb ((za HB1).trans (hb2.mono (za HB1).size))
   clear hb2 HC1 HB1
   go_wp2
   go_ret2
   exact⟨rfl,za HB2⟩
  ·rw [if_neg hc] at hr
   have e:zuv s b=.tuple #[.int .i64 0,bdV b]:=by unfold zuv;rw [hr]
   rw [e]
   unfold bdV
   have hd:((itB v).toList == s.toList)=false\/(((itB v).toList == s.toList)=true/\(v < -999999999\/(¬ v < -999999999/\v > 999999999))):=by
    by_cases h1:itB v=s
    ·refine .inr ⟨zfk.2 h1,?_⟩
     by_cases h2:v < -999999999
     ·exact .inl h2
     ·refine .inr ⟨h2,?_⟩
      by_cases h3:v > 999999999
      ·exact h3
      ·exact absurd ⟨h1,by omega,by omega⟩ hc
    ·exact .inl (QW h1)
   clear hA HI hr e hc
   generalize itB v=I at *
   rcases hd with hd | ⟨hd,hd2 | ⟨hd2,hd3⟩⟩
   all_goals
    go_enter Tryz.func127,Tryz.ntmps127
    go_wp2_with fail
    refine(za HA).mono ?_
    rintro e w1 ⟨rfl,hb1⟩
    have HC1:=zb (za HC w1 hb1)
    have HB1:=zb hb1
    clear HA hb1 HC
    go_wp2_with fail
    refine(za HC1).mono ?_
    rintro e w2 ⟨rfl,hb2⟩
    have hB2:=(za HB1).trans (hb2.mono (za HB1).size)
    have hbd:=za HBD w2 hB2
    unfold BdT at hbd
    have HB2:=zb hB2
    clear hb2 HC1 HB1 hB2 HBD
    go_wp2_with fail
    go_quiet (fail)
    go_wp2
    go_ret2
    exact⟨rfl,below_drewN (za HB2) _⟩
 ·have hno:∀ v,Go.Lib.atoiAll s.data.toList≠.ok v:=fun v hv=>hq ⟨v,hv⟩
  have e:zuv s b=.tuple #[.int .i64 0,bdV b]:=by unfold zuv;rw [zAz hno]
  rw [e]
  unfold bdV
  have HA:Hid (Calls Tryz.prog 182 #[.string s] w fun e w'=>(∃ z t p,e=.returned (.tuple #[.int .i64 z,.iface t p]))/\Below w.heap.size w w'):=zb (hA.mono (fun e w' h=>by
   obtain⟨h1 | h1,hb⟩:=h
   ·obtain⟨v,hv,_⟩:=h1
    exact absurd hv (hno v)
   ·exact⟨h1.2,hb⟩))
  clear hA HI e hno hq
  go_enter Tryz.func127,Tryz.ntmps127
  go_wp2_with fail
  refine(za HA).mono ?_
  rintro e w1 ⟨⟨z,t,p,rfl⟩,hb1⟩
  have hbd:=za HBD w1 hb1
  unfold BdT at hbd
  have HB1:=zb hb1
  clear HA hb1 HBD
  go_wp2_with fail
  go_quiet (fail)
  go_wp2
  go_ret2
  exact⟨rfl,below_drewN (za HB1) _⟩
end
end Go.Proofs.YtchmlnmhbfaclaaGreatDoor
namespace Go.Proofs.YtchmlnmhbfaclaaGreatDoor
open Go.RowKit
set_option linter.unusedVariables false
def zbQ:ByteArray:=⟨#[48,49,50,51,52,53,54,55,56,57,97,98,99,100,101,102]⟩
def hxD(c:UInt8):Int:=Go.Lib.indexByte zbQ.data.toList c
theorem zeA(c:UInt8):∀ l:List UInt8,-1<=Go.Lib.indexByte l c/\Go.Lib.indexByte l c<l.length
 | []=>by unfold Go.Lib.indexByte;simp
 | x :: l=>by
  have ih:=zeA c l
  unfold Go.Lib.indexByte
  rw [List.length_cons]
  split
  ·omega
  ·split <;> omega
theorem zwT(c:UInt8):hxD c<16:=(zeA c zbQ.data.toList).2
theorem zvv(c:UInt8)(w:World):Calls Tryz.prog 183 #[.string ⟨#[48,49,50,51,52,53,54,55,56,57,97,98,99,100,101,102]⟩,.int .u8 c.toNat] w fun e w'=>e=.returned (.int .i64 (hxD c))/\w=w':=by
 have h:=zij zbQ c.toNat w
 have e:((c.toNat:Int)).toNat.toUInt8=c:=by
  rw [Int.toNat_natCast]
  exact UInt8.ofNat_toNat
 rw [e] at h
 exact h
def hxP(x d:Int):Int:=bits .or .u8 (x * 16 % 256) d
theorem u8_or_nat(a b:Nat)(ha:a<256)(hb:b<256):bits .or .u8 (a:Int) (b:Int)=((a ||| b:Nat):Int):=by
 have h1:a ||| b<256:=Nat.or_lt_two_pow (n:=8) ha hb
 show IntKind.u8.wrap ((BitVec.ofInt 8 (a:Int) ||| BitVec.ofInt 8 (b:Int)).toNat:Int)=_
 rw [BitVec.toNat_or,BitVec.ofInt_natCast,BitVec.ofInt_natCast,BitVec.toNat_ofNat,BitVec.toNat_ofNat,Nat.mod_eq_of_lt (show a<2 ^ 8 by omega),Nat.mod_eq_of_lt (show b<2 ^ 8 by omega)]
 generalize a ||| b=c at *
 rw [IntKind.wrap_u8]
 omega
theorem zBj{x d:Int}(hd:0<=d/\d<16):0<=hxP x d/\hxP x d<=255:=by
 obtain⟨a,ha⟩:∃ a:Nat,x * 16 % 256=a:=⟨(x * 16 % 256).toNat,by omega⟩
 obtain⟨k,rfl⟩:∃ k:Nat,d=k:=⟨d.toNat,by omega⟩
 unfold hxP
 rw [ha,u8_or_nat a k (by omega) (by omega)]
 have h1:a ||| k<256:=Nat.or_lt_two_pow (n:=8) (by omega) (by omega)
 omega
def hxC(s:ByteArray)(i:Nat):UInt8:=s.data.toList.getD i 0
def hxS(s:ByteArray):Nat->List Int
 | 0=>zerosB (s.size / 2)
 | i+1=>(hxS s i).set (i / 2) (hxP ((hxS s i).getD (i / 2) 0) (hxD (hxC s i)))
theorem zc4(s:ByteArray):∀ i,(hxS s i).length=s.size / 2
 | 0=>length_zerosB _
 | i+1=>by
  show((hxS s i).set _ _).length=_
  rw [List.length_set]
  exact zc4 s i
theorem zsi(s:ByteArray):∀ i,(∀ j,j<i->0<=hxD (hxC s j))->Byt (hxS s i)
 | 0,_=>byt_zerosB _
 | i+1,h=>zmm (zsi s i (fun j hj=>h j (by omega))) _ _ (zBj ⟨h i (by omega),zwT _⟩)
def rdH(s:ByteArray):Option (List Int):=if s.size % 2=0/\∀ j,j<s.size->0<=hxD (hxC s j) then some (hxS s s.size) else none
def RdH(w:World)(b:Addr)(s:ByteArray)(e:Ending)(w':World):Prop:=Below w.heap.size w w'/\((∃ l g,rdH s=some l/\e=.returned (.tuple #[.slice (some ⟨g,0,none⟩) l.length l.length,.nilIface])/\Blk w' g l/\w.heap.size<=g)\/(rdH s=none/\e=.returned (.tuple #[.slice none 0 0,bdV b])))
theorem zwU{s:ByteArray}{i:Nat}(h:i<s.size):hxC s i=s[i]:=by
 unfold hxC
 rw [List.getD_eq_getElem?_getD,Array.getElem?_toList,Array.getElem?_eq_getElem h]
 rfl
set_option maxRecDepth 100000 in
set_option maxHeartbeats 1000000 in
theorem zlo(s:ByteArray)(b:Addr)(w:World)(hw:RnW w b)(hs:s.size<=3000):Calls Tryz.prog 128 #[.string s] w (RdH w b s):=by
 have hbd:=hw.bd
 unfold BdT at hbd
 by_cases he:(s.size:Int) % 2=0
 ·have hmk:∀ w',Sem.run Tryz.prog (Instr.makeSlice 29 (.int .i64 ((s.size:Int) / 2)) (.int .i64 ((s.size:Int) / 2))) w'=.ok (.slice (some ⟨w'.heap.size,0,none⟩) (s.size / 2) (s.size / 2)) (mkW w' (s.size / 2)):=fun w'=>by
   have h:=zbp w' (s.size / 2) (by omega)
   rw [show(((s.size / 2:Nat):Int))=(s.size:Int) / 2 by omega] at h
   exact h
  have HBL:=zb (And.intro (zh4 w (s.size / 2)) (zdB w (s.size / 2)))
  have HBD:=zb (fun(W:World) (hW:Below w.heap.size w W)=>hw.bd.below hW)
  have heb:((s.size:Int) % 2 != 0)=false:=bne_eq_false_iff_eq.2 he
  have HE:=zb he
  clear hw hbd he
  go_enter Tryz.func128,Tryz.ntmps128
  go_wp2_with fail
  go_loopw [5,6,18] (fun _ _ iv wr=>∃ (i:Nat),i<=s.size/\iv=.int .i64 i/\Blk wr w.heap.size (hxS s i)/\(∀ j,j<i->0<=hxD (hxC s j))/\Below w.heap.size w wr) (fun _ _ iv _=>s.size-(intOf iv).toNat)
  case atStart=>exact⟨0,Nat.zero_le _,rfl,(za HBL).1,fun j hj=>absurd hj (Nat.not_lt_zero _),(za HBL).2⟩
  case round =>
   obtain⟨i,hi,rfl,hb,hgd,hbel⟩:=hrel
   by_cases hlt:i<s.size
   ·have hin:(0:Int)<=(i:Int) / 2:=by omega
    have hin2:(i:Int) / 2<((s.size / 2:Nat):Int):=by have:=za HE;omega
    have hcl:=hb.cell (i / 2) (by rw [zc4];have:=za HE;omega)
    have hfz:=hb.frozen (i / 2)
    have hnt:((i:Int) / 2).toNat=i / 2:=by omega
    have hbd:=za HBD _ hbel
    unfold BdT at hbd
    have HD:=zb (fun W=>zvv s[i] W)
    have HSU:Hid (hxS s (i+1)=(hxS s i).set (i / 2) (hxP ((hxS s i).getD (i / 2) 0) (hxD (hxC s i)))):=zb rfl
    rw [zwU hlt] at HSU
    have HGD:=zb hgd
    have HCA:=zb (zwU hlt)
    have hd1:=zwT s[i]
    have HBK:=zb (fun c=>hb.set (i / 2) c)
    have HBE:=zb (fun c=>hbel.setCell (p:=⟨w.heap.size,i / 2,none⟩) (Nat.le_refl _) (.int .u8 c))
    have HBL2:=zb hbel
    clear hb hgd hbel HBL HBD
    by_cases hd0:hxD s[i]<0
    ·have HNO:Hid (rdH s=none):=zb (if_neg (fun h=>by have:=h.2 i hlt;rw [za HCA] at this;omega))
     generalize hxD s[i]=d at *
     generalize (hxS s i).getD (i / 2) 0=x at *
     go_wp2_with fail
     refine(za HD _).mono ?_
     rintro e w' ⟨rfl,rfl⟩
     go_wp2_with fail
     go_quiet (fail)
     go_wp2
     go_ret2
     exact⟨below_drewN (za HBL2) _,.inr ⟨za HNO,rfl⟩⟩
    ·have HG2:Hid (∀ j,j<i+1->0<=hxD (hxC s j)):=zb (fun j hj=>by
      by_cases h:j<i
      ·exact za HGD j h
      ·obtain rfl:j=i:=by omega
       rw [za HCA];omega)
     have HB3:=zb (za HBK (hxP ((hxS s i).getD (i / 2) 0) (hxD s[i])))
     have HB4:=zb (za HBE (hxP ((hxS s i).getD (i / 2) 0) (hxD s[i])))
     rw [<- za HSU] at HB3
     unfold hxP at HB3 HB4
     generalize hxD s[i]=d at *
     generalize (hxS s i).getD (i / 2) 0=x at *
     clear HBK HBE HSU HGD HCA
     go_wp2_with fail
     refine(za HD _).mono ?_
     rintro e w' ⟨rfl,rfl⟩
     go_wp2
     go_roundw
     case rel=>exact⟨i+1,by omega,by go_num,za HB3,za HG2,za HB4⟩
     case measure=>simp [intOf];omega
   ·obtain rfl:i=s.size:=by omega
    have hr:rdH s=some (hxS s s.size):=if_pos ⟨by have:=za HE;omega,hgd⟩
    have hl:=zc4 s s.size
    have HB:=zb (And.intro hb hbel)
    clear hb hbel HBL HBD hgd
    go_wp2
    go_ret2
    exact⟨(za HB).2,.inl ⟨_,_,hr,by rw [hl];rfl,(za HB).1,Nat.le_refl _⟩⟩
 ·have hr:rdH s=none:=if_neg (fun h=>he (by have:=h.1;omega))
  have heb:((s.size:Int) % 2 != 0)=true:=bne_iff_ne.2 he
  clear hw
  go_enter Tryz.func128,Tryz.ntmps128
  go_wp2_with fail
  go_quiet (fail)
  go_wp2
  go_ret2
  exact⟨below_drewN (Below.refl _ _) _,.inr ⟨hr,rfl⟩⟩
end Go.Proofs.YtchmlnmhbfaclaaGreatDoor
