import Derived.Shelf.Strings.Cut
import Derived.Shelf.Strings.Split
import Derived.Shelf.Strconv.AtoiAll
import Derived.Shelf.Strconv.Itoa4
import Derived.Shelf.Small.Strs
import Derived.Shelf.Strings.BuilderK
import Derived.Shelf.Strings.Builder2
import Derived.Test.YtoiebmeajhpgcaaGreatDoorJDfr
import Derived.Lib.SmallJoins
import Derived.Lib.AtoiErrMem
import Derived.Lib.AppendIntMem
import Derived.Test.YtoiebmeajhpgcaaGreatDoorJTn
import Derived.Lib.AppendStr
import Derived.Lib.Builder
import Derived.Lib.FrozenHead
import Derived.Test.YtoiebmeajhpgcaaGreatDoorJWy
set_option maxRecDepth 100000
set_option maxHeartbeats 16000000
set_option linter.all false
namespace Go.Proofs.YtoiebmeajhpgcaaGreatDoor
section
variable {w w':World}{b:Addr}{s:BA}{v:Int}
open Tryz
open Go.RowKit
section
open Go.Shelf
def Se:Ren:={ f:=fun | 145=>49 | 220=>82 | 219=>123 | 217=>173 | 225=>174 | 224=>175 | 267=>176 | 266=>220 | 314=>221 | n=>n,t:=fun | 9=>9 | 4=>4 | 59=>109 | 3=>3 | 5=>5 | 46=>249 | 146=>325 | 51=>324 | n=>n,g:=fun | 1=>2 | n=>n }
theorem zjh:Lays.n145 prog Se:={ mixed:=SQ,f145:=func49.trans rfl,f217:=func173.trans rfl,f219:=func123.trans rfl,f220:=func82.trans rfl,f224:=func175.trans rfl,f225:=func174.trans rfl,f266:=func220.trans rfl,f267:=func176.trans rfl,f314:=func221.trans rfl,t3:=underlying3,a3:=isAgg3,z3:=sizeOf3,v3:=zeroValue3,t4:=underlying4,a4:=isAgg4,z4:=sizeOf4,v4:=zeroValue4,t5:=underlying5,a5:=isAgg5,z5:=sizeOf5,v5:=zeroValue5,t9:=underlying9,a9:=isAgg9,z9:=sizeOf9,v9:=zeroValue9,t46:=underlying249,a46:=isAgg249,z46:=sizeOf249,v46:=zeroValue249,t51:=underlying324,a51:=isAgg324,z51:=sizeOf324,v51:=zeroValue324,t59:=underlying109,a59:=isAgg109,z59:=sizeOf109,v59:=zeroValue109,t146:=underlying325,a146:=isAgg325,z146:=sizeOf325,v146:=zeroValue325,g1:=by kernel_rfl }
def Ki:Ren:={ f:=fun | 146=>84 | 221=>124 | 268=>177 | 138=>178 | 143=>179 | 195=>222 | 197=>223 | 218=>224 | 219=>123 | 260=>276 | 217=>173 | 225=>174 | 224=>175 | 267=>176 | 266=>220 | 314=>221 | n=>n,t:=fun | 9=>9 | 31=>60 | 3=>3 | 4=>4 | 0=>0 | 105=>328 | 21=>21 | 5=>5 | 46=>249 | 119=>404 | 139=>407 | 138=>406 | 146=>325 | 51=>324 | n=>n,g:=fun | 1=>2 | 3=>3 | 4=>4 | n=>n }
theorem zba:Lays.n146 prog Ki:={ mixed:=SQ,f138:=func178.trans rfl,f143:=func179.trans rfl,f146:=func84.trans rfl,f195:=func222.trans rfl,f197:=func223.trans rfl,f217:=func173.trans rfl,f218:=func224.trans rfl,f219:=func123.trans rfl,f221:=func124.trans rfl,f224:=func175.trans rfl,f225:=func174.trans rfl,f260:=func276.trans rfl,f266:=func220.trans rfl,f267:=func176.trans rfl,f268:=func177.trans rfl,f314:=func221.trans rfl,t0:=underlying0,a0:=isAgg0,z0:=sizeOf0,v0:=zeroValue0,t3:=underlying3,a3:=isAgg3,z3:=sizeOf3,v3:=zeroValue3,t4:=underlying4,a4:=isAgg4,z4:=sizeOf4,v4:=zeroValue4,t5:=underlying5,a5:=isAgg5,z5:=sizeOf5,v5:=zeroValue5,t9:=underlying9,a9:=isAgg9,z9:=sizeOf9,v9:=zeroValue9,t21:=underlying21,a21:=isAgg21,z21:=sizeOf21,v21:=zeroValue21,t31:=underlying60,a31:=isAgg60,z31:=sizeOf60,v31:=zeroValue60,t46:=underlying249,a46:=isAgg249,z46:=sizeOf249,v46:=zeroValue249,t51:=underlying324,a51:=isAgg324,z51:=sizeOf324,v51:=zeroValue324,t105:=underlying328,a105:=isAgg328,z105:=sizeOf328,v105:=zeroValue328,t119:=underlying404,a119:=isAgg404,z119:=sizeOf404,t138:=underlying406,a138:=isAgg406,z138:=sizeOf406,v138:=zeroValue406,t139:=underlying407,a139:=isAgg407,z139:=sizeOf407,v139:=zeroValue407,t146:=underlying325,a146:=isAgg325,z146:=sizeOf325,v146:=zeroValue325,g1:=SQ,g3:=SQ,g4:=by kernel_rfl }
def Sr:Ren:={ f:=fun | 172=>180 | 244=>225 | 245=>226 | 247=>277 | 279=>278 | 280=>279 | 281=>280 | 282=>281 | 287=>313 | 316=>314 | 171=>127 | 205=>315 | 321=>334 | 322=>335 | 243=>182 | 246=>227 | 283=>282 | 284=>283 | 285=>284 | 286=>285 | 129=>317 | 317=>316 | 318=>318 | 319=>319 | 320=>320 | 337=>336 | 338=>337 | n=>n,t:=fun | 9=>9 | 3=>3 | 75=>35 | 76=>45 | 4=>4 | 5=>5 | 167=>372 | 37=>29 | 0=>0 | 85=>373 | 2=>2 | 168=>375 | 53=>353 | 175=>408 | 46=>249 | 210=>411 | 127=>116 | 145=>426 | 143=>424 | 21=>21 | 171=>378 | 173=>381 | 212=>414 | 51=>324 | 20=>20 | 213=>415 | 232=>307 | 233=>437 | 80=>48 | n=>n,g:=fun | 15=>5 | 16=>6 | 17=>7 | 18=>8 | 19=>9 | n=>n }
theorem Ss:LaysC.n172 prog Sr:={ mixed:=SQ,f129:=func317.trans rfl,f171:=func127.trans rfl,f172:=func180.trans rfl,f205:=func315.trans rfl,f243:=func182.trans rfl,f244:=func225.trans rfl,f245:=func226.trans rfl,f246:=func227.trans rfl,f247:=func277.trans rfl,f279:=func278.trans rfl,f280:=func279.trans rfl,f281:=func280.trans rfl,f282:=func281.trans rfl,f283:=func282.trans rfl,f284:=func283.trans rfl,f285:=func284.trans rfl,f286:=func285.trans rfl,f287:=func313.trans rfl,f316:=func314.trans rfl,f317:=func316.trans rfl,f318:=func318.trans rfl,f319:=func319.trans rfl,f320:=func320.trans rfl,f321:=func334.trans rfl,f322:=func335.trans rfl,f337:=func336.trans rfl,f338:=func337.trans rfl,t0:=underlying0,a0:=isAgg0,z0:=sizeOf0,v0:=zeroValue0,t2:=underlying2,a2:=isAgg2,z2:=sizeOf2,v2:=zeroValue2,t3:=underlying3,a3:=isAgg3,z3:=sizeOf3,v3:=zeroValue3,t4:=underlying4,a4:=isAgg4,z4:=sizeOf4,v4:=zeroValue4,t5:=underlying5,a5:=isAgg5,z5:=sizeOf5,v5:=zeroValue5,t9:=underlying9,a9:=isAgg9,z9:=sizeOf9,v9:=zeroValue9,t20:=underlying20,a20:=isAgg20,z20:=sizeOf20,v20:=zeroValue20,t21:=underlying21,a21:=isAgg21,z21:=sizeOf21,v21:=zeroValue21,t37:=underlying29,a37:=isAgg29,z37:=sizeOf29,v37:=zeroValue29,t46:=underlying249,a46:=isAgg249,z46:=sizeOf249,v46:=zeroValue249,t51:=underlying324,a51:=isAgg324,z51:=sizeOf324,v51:=zeroValue324,t53:=underlying353,a53:=isAgg353,z53:=sizeOf353,v53:=zeroValue353,t75:=underlying35,a75:=isAgg35,z75:=sizeOf35,v75:=zeroValue35,t76:=underlying45,a76:=isAgg45,z76:=sizeOf45,v76:=zeroValue45,t85:=underlying373,a85:=isAgg373,z85:=sizeOf373,v85:=zeroValue373,t127:=underlying116,a127:=isAgg116,z127:=sizeOf116,v127:=zeroValue116,t143:=underlying424,a143:=isAgg424,z143:=sizeOf424,v143:=zeroValue424,t145:=underlying426,a145:=isAgg426,z145:=sizeOf426,v145:=zeroValue426,t167:=underlying372,a167:=isAgg372,z167:=sizeOf372,v167:=zeroValue372,t168:=underlying375,a168:=isAgg375,z168:=sizeOf375,v168:=zeroValue375,t171:=underlying378,a171:=isAgg378,z171:=sizeOf378,v171:=zeroValue378,t173:=underlying381,a173:=isAgg381,z173:=sizeOf381,v173:=zeroValue381,t175:=underlying408,a175:=isAgg408,z175:=sizeOf408,v175:=zeroValue408,t210:=underlying411,a210:=isAgg411,z210:=sizeOf411,v210:=zeroValue411,t212:=underlying414,a212:=isAgg414,z212:=sizeOf414,v212:=zeroValue414,t213:=underlying415,a213:=isAgg415,z213:=sizeOf415,t232:=underlying307,a232:=isAgg307,z232:=sizeOf307,v232:=zeroValue307,t233:=underlying437,a233:=isAgg437,z233:=sizeOf437,v233:=zeroValue437,g15:=SQ,g16:=SQ,g17:=SQ,g18:=SQ,g19:=SQ,t80:=underlying48,a80:=isAgg48,z80:=sizeOf48,v80:=zeroValue48,i0:=SQ,i2:=SQ,i3:=SQ,i4:=SQ,i5:=SQ,i9:=SQ,i20:=SQ,i21:=SQ,i37:=SQ,i46:=SQ,i51:=SQ,i53:=SQ,i75:=SQ,i76:=SQ,i80:=SQ,i85:=SQ,i127:=SQ,i143:=SQ,i145:=SQ,i167:=SQ,i168:=SQ,i171:=SQ,i173:=SQ,i175:=SQ,i210:=SQ,i212:=SQ,i232:=SQ,i233:=SQ,m15:=SQ,m16:=SQ,m17:=SQ,m18:=SQ,m19:=SQ,c0:=SQ,c2:=SQ,c3:=SQ,c4:=SQ,c5:=SQ,c9:=SQ,c20:=SQ,c21:=SQ,c37:=SQ,c46:=SQ,c51:=SQ,c53:=SQ,c75:=SQ,c76:=SQ,c80:=SQ,c85:=SQ,c127:=SQ,c143:=SQ,c145:=SQ,c167:=SQ,c168:=SQ,c171:=SQ,c173:=SQ,c175:=SQ,c210:=SQ,c212:=SQ,c213:=SQ,c232:=SQ,c233:=by kernel_rfl }
def Sd:Ren:={ f:=fun | 137=>181 | 217=>173 | 266=>220 | n=>n,t:=fun | 9=>9 | 5=>5 | 3=>3 | n=>n,g:=fun n=>n }
theorem zjg:Lays.n137 prog Sd:={ mixed:=SQ,f137:=func181.trans rfl,f217:=func173.trans rfl,f266:=func220.trans rfl,t3:=underlying3,a3:=isAgg3,z3:=sizeOf3,v3:=zeroValue3,t5:=underlying5,a5:=isAgg5,z5:=sizeOf5,v5:=zeroValue5,t9:=underlying9,a9:=isAgg9,z9:=sizeOf9,v9:=zeroValue9 }
def Sq:Ren:={ f:=fun | 171=>127 | 243=>182 | 246=>227 | 283=>282 | 284=>283 | 285=>284 | 286=>285 | 129=>317 | 317=>316 | 318=>318 | 319=>319 | 320=>320 | 337=>336 | 338=>337 | n=>n,t:=fun | 3=>3 | 9=>9 | 2=>2 | 4=>4 | 171=>378 | 0=>0 | 53=>353 | 37=>29 | 5=>5 | 173=>381 | 212=>414 | 51=>324 | 20=>20 | 213=>415 | 46=>249 | 232=>307 | 233=>437 | n=>n,g:=fun | 17=>7 | 18=>8 | 19=>9 | n=>n }
theorem zjs:LaysM.n171 prog Sq:={ mixed:=SQ,f129:=func317.trans rfl,f171:=func127.trans rfl,f243:=func182.trans rfl,f246:=func227.trans rfl,f283:=func282.trans rfl,f284:=func283.trans rfl,f285:=func284.trans rfl,f286:=func285.trans rfl,f317:=func316.trans rfl,f318:=func318.trans rfl,f319:=func319.trans rfl,f320:=func320.trans rfl,f337:=func336.trans rfl,f338:=func337.trans rfl,t0:=underlying0,a0:=isAgg0,z0:=sizeOf0,v0:=zeroValue0,t2:=underlying2,a2:=isAgg2,z2:=sizeOf2,v2:=zeroValue2,t3:=underlying3,a3:=isAgg3,z3:=sizeOf3,v3:=zeroValue3,t4:=underlying4,a4:=isAgg4,z4:=sizeOf4,v4:=zeroValue4,t5:=underlying5,a5:=isAgg5,z5:=sizeOf5,v5:=zeroValue5,t9:=underlying9,a9:=isAgg9,z9:=sizeOf9,v9:=zeroValue9,t20:=underlying20,a20:=isAgg20,z20:=sizeOf20,v20:=zeroValue20,t37:=underlying29,a37:=isAgg29,z37:=sizeOf29,v37:=zeroValue29,t46:=underlying249,a46:=isAgg249,z46:=sizeOf249,v46:=zeroValue249,t51:=underlying324,a51:=isAgg324,z51:=sizeOf324,v51:=zeroValue324,t53:=underlying353,a53:=isAgg353,z53:=sizeOf353,v53:=zeroValue353,t171:=underlying378,a171:=isAgg378,z171:=sizeOf378,v171:=zeroValue378,t173:=underlying381,a173:=isAgg381,z173:=sizeOf381,v173:=zeroValue381,t212:=underlying414,a212:=isAgg414,z212:=sizeOf414,v212:=zeroValue414,t213:=underlying415,a213:=isAgg415,z213:=sizeOf415,t232:=underlying307,a232:=isAgg307,z232:=sizeOf307,v232:=zeroValue307,t233:=underlying437,a233:=isAgg437,z233:=sizeOf437,v233:=zeroValue437,g17:=SQ,g18:=SQ,g19:=SQ,i0:=SQ,i2:=SQ,i3:=SQ,i4:=SQ,i5:=SQ,i9:=SQ,i20:=SQ,i37:=SQ,i46:=SQ,i51:=SQ,i53:=SQ,i171:=SQ,i173:=SQ,i212:=SQ,i232:=SQ,i233:=SQ,m17:=SQ,m18:=SQ,m19:=by kernel_rfl }
def CK:Ren:={ f:=fun | 169=>14 | n=>n,t:=fun | 70=>39 | 9=>9 | 0=>0 | 72=>41 | 37=>29 | 127=>116 | 3=>3 | 5=>5 | n=>n,g:=fun n=>n }
theorem WY:Lays.n169 prog CK:={ mixed:=SQ,f169:=func14.trans rfl,t0:=underlying0,a0:=isAgg0,z0:=sizeOf0,v0:=zeroValue0,t3:=underlying3,a3:=isAgg3,z3:=sizeOf3,v3:=zeroValue3,t9:=underlying9,a9:=isAgg9,z9:=sizeOf9,v9:=zeroValue9,t37:=underlying29,a37:=isAgg29,z37:=sizeOf29,v37:=zeroValue29,t70:=underlying39,a70:=isAgg39,z70:=sizeOf39,v70:=zeroValue39,t72:=underlying41,a72:=isAgg41,z72:=sizeOf41,v72:=zeroValue41,t127:=underlying116,a127:=isAgg116,z127:=sizeOf116,v127:=zeroValue116 }
def JU:Ren:={ f:=fun | 241=>261 | 277=>302 | n=>n,t:=fun | 70=>39 | 3=>3 | 0=>0 | 72=>41 | 37=>29 | 5=>5 | n=>n,g:=fun n=>n }
theorem zou:Lays.n241 prog JU:={ mixed:=SQ,f241:=func261.trans rfl,f277:=func302.trans rfl,t0:=underlying0,a0:=isAgg0,z0:=sizeOf0,v0:=zeroValue0,t3:=underlying3,a3:=isAgg3,z3:=sizeOf3,v3:=zeroValue3,t37:=underlying29,a37:=isAgg29,z37:=sizeOf29,v37:=zeroValue29,t70:=underlying39,a70:=isAgg39,z70:=sizeOf39,v70:=zeroValue39,t72:=underlying41,a72:=isAgg41,z72:=sizeOf41,v72:=zeroValue41 }
end
section
open Go.Extern.Stop
open Go.Stop
open Go.Extern
theorem Iu v w:(ReflectliteType.typeOf #[.iface 424 v]).run prog w=.ok (.iface 218 (.agg #[.pointer (some ⟨10,424,none⟩)])) w:=SQ
def zbJ:Array Value->Sem Value:=ReflectliteType.method fun t=>do
 Rtype.noPackHeld "Comparable" t
 pure (.bool (<- typeInfo t).comparable)
theorem Vz w:(zbJ #[.agg #[.pointer (some ⟨10,424,none⟩)]]).run prog w=.ok (.bool true) w:=SQ
theorem xQ v w:(Go.method 580 218 v "Comparable").run prog w=.ok (391,v) w:=SQ
theorem XY:(prog.info? 424).map (·.comparable)=some true:=SQ
theorem zf6:(prog.info? 426).map (·.size)=some 1:=SQ
theorem zf8 v(xT:TypeId) w:(Instr.typeAssert (.iface 105 v) xT 220 true).run prog w=.ok (.tuple #[.nilIface,.bool false]) w:=run_typeAssert_lacksB underlying220 SQ SQ v xT w
theorem zf7 v(xT:TypeId) w:(Instr.typeAssert (.iface 105 v) xT 223 true).run prog w=.ok (.tuple #[.nilIface,.bool false]) w:=run_typeAssert_lacksB underlying223 SQ SQ v xT w
theorem zbI v(xT:TypeId) w:(Instr.typeAssert (.iface 105 v) xT 224 true).run prog w=.ok (.tuple #[.nilIface,.bool false]) w:=run_typeAssert_lacksB underlying224 SQ SQ v xT w
theorem zkd b w:zC 45 #[.nilIface,.iface 424 (.pointer (some b))] w fun e w'=>e=.returned (.bool false)/\w=w':=by
 have hn:=run_eql_iface_nil_left (P:=prog) w 424 (.pointer (some b)) underlying35;go_enter func45,ntmps45
 exact Tt
theorem zke b w:zC 45 #[.iface 424 (.pointer (some b)),.iface 424 (.pointer (some b))] w fun e w'=>e=.returned (.bool true)/\w=w':=by obtain⟨i,hi,zqt⟩:=Option.map_eq_some_iff.1 XY;obtain⟨j,hj,hjs⟩:=Option.map_eq_some_iff.1 zf6;have h1:=@run_callFunc_extern prog 76 _ ReflectliteType.typeOf func76 SQ SQ SQ SQ;have h2:=@run_callFunc_extern prog 391 _ zbJ func391 SQ SQ SQ SQ;have tT:=Iu;have cT:=Vz;have mR:=xQ;have heq:=run_eql_iface_ptr_same (P:=prog) w b underlying35 underlying424 hi zqt hj;exact Nd
theorem zc4 k b w:zC 45 #[.iface 105 (zi k),.iface 424 (.pointer (some b))] w fun e w'=>e=.returned (.bool false)/\w=w':=by have h1:=@run_callFunc_extern prog 76 _ ReflectliteType.typeOf func76 SQ SQ SQ SQ;have h2:=@run_callFunc_extern prog 391 _ zbJ func391 SQ SQ SQ SQ;have tT:=Iu;have cT:=Vz;have mR:=xQ;have nI:=zf8;have uI:=zf7;have vI:=zbI;have hty:=run_eql_iface_types (P:=prog) 105 424 (zi k) (.pointer (some b)) underlying35 Si w;exact Nd
def okS:BA:=⟨#[111,107]⟩
def zax:BA:=⟨#[98,97,100]⟩
def enS(k:Int):BA :=
 if k=0 then ⟨#[79,75]⟩
 else if k=1 then ⟨#[69,114,114,82,97,110,103,101]⟩
 else if k=2 then ⟨#[69,114,114,83,121,110,116,97,120]⟩
 else if k=3 then ⟨#[69,114,114,83,104,97,112,101]⟩
 else if k=4 then ⟨#[69,114,114,70,117,108,108]⟩
 else if k=5 then ⟨#[69,114,114,78,111,110,101]⟩
 else if k=6 then ⟨#[69,114,114,83,116,97,116,101]⟩
 else if k=7 then ⟨#[69,114,114,67,108,97,115,104]⟩
 else if k=8 then ⟨#[69,114,114,84,97,103]⟩
 else if k=9 then ⟨#[69,114,114,76,111,115,116]⟩
 else ⟨#[69,114,114,110,111]⟩
theorem Ux k w:zC 47 #[zi k] w fun e w'=>e=.returned (.string (enS k))/\w=w':=by
 unfold enS;by_cases h0:k=0
 ·subst h0;exact Vx
 by_cases h1:k=1
 ·subst h1;exact Vx
 by_cases h2:k=2
 ·subst h2;exact Vx
 by_cases h3:k=3
 ·subst h3;exact Vx
 by_cases h4:k=4
 ·subst h4;exact Vx
 by_cases h5:k=5
 ·subst h5;exact Vx
 by_cases h6:k=6
 ·subst h6;exact Vx
 by_cases h7:k=7
 ·subst h7;exact Vx
 by_cases h8:k=8
 ·subst h8;exact Vx
 by_cases h9:k=9
 ·subst h9;exact Vx
 rw[zn h0,zn h1,zn h2,zn h3,zn h4,zn h5,zn h6,zn h7,zn h8,zn h9];go_enter func47,ntmps47
 exact Tt
def nJ(k:Int):BA:=if k=0 then okS else enS k
def Hq(b:Addr):Value:=.iface 424 (.pointer (some b))
def Q7(w:World)(b:Addr):Prop:=w.cell? (zp 0)=some (.iface 424 (.pointer (some b)))
theorem Q7.below(h:Q7 w b)(hb:zB w w'):Q7 w' b:=by unfold Q7;rw[hb.cell (qAA h)];exact h
theorem za3 b w(hb:Q7 w b):zC 9 #[Hq b] w fun e w'=>e=.returned (.string zax)/\zB w w':=by
 have hB:=(Below.refl w.heap.size w).alloc zNr (.cells #[zi 0] 105);have hc:=hb.below hB;unfold Q7 at hc;have HB:=ae hB;unfold Hq;go_enter func9,ntmps9
 go_wp2_with (go_at_call 45;refine(zke b _).mono ?_;rintro e w' ⟨rfl,rfl⟩)
 go_ret;exact zpQ
theorem zlA t w:zC 46 #[.nilIface,.iface 108 (.pointer (some t))] w fun e w'=>e=.returned (.bool false)/\w=w':=by
 go_enter func46,ntmps46
 exact Tt
theorem jI k b w(hb:Q7 w b)(hg:Q5 w):zC 9 #[bc k] w fun e w'=>e=.returned (.string (nJ k))/\zB w w':=by
 have hB:=(Below.refl w.heap.size w).alloc zNr (.cells #[zi 0] 105);have hc:=hb.below hB;unfold Q7 at hc;unfold nJ;by_cases h:k=0
 ·subst h;rw[aC,zy rfl];have HB:=ae hB;go_enter func9,ntmps9
  go_wp2_with fail
  refine(zkd b _).mono ?_;rintro e w' ⟨rfl,rfl⟩;go_wp2_with fail
  refine(zlA _ _).mono ?_;exact zpm
 ·rw[aF k h,zn h];have hgA:=hg.below hB;have htA:(w.alloc (.cells #[zi 0] 105)).cell? (zp w.heap.size)=some (zi 0):=by simp
  have hfA:(w.alloc (.cells #[zi 0] 105)).frozen? (zp w.heap.size)=false:=Sk;have has:=zeM k (zp w.heap.size) (zi 0) _ hgA htA hfA;have HAS:=ae has;go_enter func9,ntmps9
  go_wp2_with fail
  refine(zc4 k b _).mono ?_;rintro e w' ⟨rfl,rfl⟩;go_wp2_with fail
  refine HAS.m ?_;rintro w1 rfl;go_wp2_with (go_at_call 47;refine(Ux k _).mono ?_;rintro e w' ⟨rfl,rfl⟩)
  go_ret;exact⟨rfl,((((zBr.alloc zNr _).alloc Sk _).alloc Tb _).alloc Tb _).alloc Tb _⟩
end
def oN:BA:=⟨#[110,101,119]⟩
def jr:BA:=⟨#[102,114,101,101]⟩
def oP:BA:=⟨#[99,117,116]⟩
def fi:BA:=⟨#[119,114,105,116,101]⟩
def iZ:BA:=⟨#[114,101,97,100]⟩
def lN:BA:=⟨#[115,101,116]⟩
def fT:BA:=⟨#[117,110,115,101,116]⟩
def oO:BA:=⟨#[103,101,116]⟩
def dN:BA:=⟨#[99,111,109,109,105,116]⟩
def fV:BA:=⟨#[97,98,111,114,116]⟩
def fU:BA:=⟨#[115,116,97,109,112]⟩
def e7:BA:=⟨#[99,114,97,115,104]⟩
def ir:BA:=⟨#[112,97,99,107]⟩
def e6:BA:=⟨#[115,119,101,101,112]⟩
def gZ:BA:=⟨#[115,116,97,116]⟩
def qy(s:BA):Option BA :=
 if s=oN then some ⟨#[78,78]⟩
 else if s=jr then some ⟨#[78]⟩
 else if s=oP then some ⟨#[78]⟩
 else if s=fi then some ⟨#[78,78,72]⟩
 else if s=iZ then some ⟨#[78,78,78]⟩
 else if s=lN then some ⟨#[65,78]⟩
 else if s=fT then some ⟨#[65]⟩
 else if s=oO then some ⟨#[65]⟩
 else if s=dN then some ⟨#[]⟩
 else if s=fV then some ⟨#[]⟩
 else if s=fU then some ⟨#[]⟩
 else if s=e7 then some ⟨#[]⟩
 else if s=ir then some ⟨#[]⟩
 else if s=e6 then some ⟨#[]⟩
 else if s=gZ then some ⟨#[]⟩
 else none
theorem zcA(h:s≠oN):(s.toList == [110,101,119])=false:=by simpa[oN]using gC h
theorem VS(h:s≠jr):(s.toList == [102,114,101,101])=false:=by simpa[jr]using gC h
theorem zcC(h:s≠oP):(s.toList == [99,117,116])=false:=by simpa[oP]using gC h
theorem OC(h:s≠fi):(s.toList == [119,114,105,116,101])=false:=by simpa[fi]using gC h
theorem VQ(h:s≠iZ):(s.toList == [114,101,97,100])=false:=by simpa[iZ]using gC h
theorem zcz(h:s≠lN):(s.toList == [115,101,116])=false:=by simpa[lN]using gC h
theorem OD(h:s≠fT):(s.toList == [117,110,115,101,116])=false:=by simpa[fT]using gC h
theorem zcB(h:s≠oO):(s.toList == [103,101,116])=false:=by simpa[oO]using gC h
theorem IU(h:s≠dN):(s.toList == [99,111,109,109,105,116])=false:=by simpa[dN]using gC h
theorem OH(h:s≠fV):(s.toList == [97,98,111,114,116])=false:=by simpa[fV]using gC h
theorem OF(h:s≠fU):(s.toList == [115,116,97,109,112])=false:=by simpa[fU]using gC h
theorem OG(h:s≠e7):(s.toList == [99,114,97,115,104])=false:=by simpa[e7]using gC h
theorem VR(h:s≠ir):(s.toList == [112,97,99,107])=false:=by simpa[ir]using gC h
theorem OE(h:s≠e6):(s.toList == [115,119,101,101,112])=false:=by simpa[e6]using gC h
theorem VP(h:s≠gZ):(s.toList == [115,116,97,116])=false:=by simpa[gZ]using gC h
def uE(s:BA)(b:Addr):Value:=match qy s with | some f=>.tuple #[.string f,.nilIface] | none=>.tuple #[.string ⟨#[]⟩,Hq b]
theorem Un s b w(hb:Q7 w b):zC 85 #[.string s] w fun e w'=>e=.returned (uE s b)/\zB w w':=by
 unfold Q7 at hb;by_cases h0:s=oN
 ·subst h0;have e:uE oN b=.tuple #[.string ⟨#[78,78]⟩,.nilIface]:=by unfold uE qy;rfl
  rw[e];unfold oN;exact j5
 by_cases h1:s=jr
 ·subst h1;have e:uE jr b=.tuple #[.string ⟨#[78]⟩,.nilIface]:=by unfold uE qy;rfl
  rw[e];unfold jr;exact j5
 by_cases h2:s=oP
 ·subst h2;have e:uE oP b=.tuple #[.string ⟨#[78]⟩,.nilIface]:=by unfold uE qy;rfl
  rw[e];unfold oP;exact j5
 by_cases h3:s=fi
 ·subst h3;have e:uE fi b=.tuple #[.string ⟨#[78,78,72]⟩,.nilIface]:=by unfold uE qy;rfl
  rw[e];unfold fi;exact j5
 by_cases h4:s=iZ
 ·subst h4;have e:uE iZ b=.tuple #[.string ⟨#[78,78,78]⟩,.nilIface]:=by unfold uE qy;rfl
  rw[e];unfold iZ;exact j5
 by_cases h5:s=lN
 ·subst h5;have e:uE lN b=.tuple #[.string ⟨#[65,78]⟩,.nilIface]:=by unfold uE qy;rfl
  rw[e];unfold lN;exact j5
 by_cases h6:s=fT
 ·subst h6;have e:uE fT b=.tuple #[.string ⟨#[65]⟩,.nilIface]:=by unfold uE qy;rfl
  rw[e];unfold fT;exact j5
 by_cases h7:s=oO
 ·subst h7;have e:uE oO b=.tuple #[.string ⟨#[65]⟩,.nilIface]:=by unfold uE qy;rfl
  rw[e];unfold oO;exact j5
 by_cases h8:s=dN
 ·subst h8;have e:uE dN b=.tuple #[.string ⟨#[]⟩,.nilIface]:=by unfold uE qy;rfl
  rw[e];unfold dN;exact j5
 by_cases h9:s=fV
 ·subst h9;have e:uE fV b=.tuple #[.string ⟨#[]⟩,.nilIface]:=by unfold uE qy;rfl
  rw[e];unfold fV;exact j5
 by_cases vR:s=fU
 ·subst vR;have e:uE fU b=.tuple #[.string ⟨#[]⟩,.nilIface]:=by unfold uE qy;rfl
  rw[e];unfold fU;exact j5
 by_cases BQ:s=e7
 ·subst BQ;have e:uE e7 b=.tuple #[.string ⟨#[]⟩,.nilIface]:=by unfold uE qy;rfl
  rw[e];unfold e7;exact j5
 by_cases Fs:s=ir
 ·subst Fs;have e:uE ir b=.tuple #[.string ⟨#[]⟩,.nilIface]:=by unfold uE qy;rfl
  rw[e];unfold ir;exact j5
 by_cases Mx:s=e6
 ·subst Mx;have e:uE e6 b=.tuple #[.string ⟨#[]⟩,.nilIface]:=by unfold uE qy;rfl
  rw[e];unfold e6;exact j5
 by_cases PO:s=gZ
 ·subst PO;have e:uE gZ b=.tuple #[.string ⟨#[]⟩,.nilIface]:=by unfold uE qy;rfl
  rw[e];unfold gZ;exact j5
 have e:uE s b=.tuple #[.string ⟨#[]⟩,Hq b]:=by unfold uE qy;rw[zn h0,zn h1,zn h2,zn h3,zn h4,zn h5,zn h6,zn h7,zn h8,zn h9,zn vR,zn BQ,zn Fs,zn Mx,zn PO]
 rw[e];unfold Hq;have b0:=zcA h0;have b1:=VS h1;have b2:=zcC h2;have b3:=OC h3;have b4:=VQ h4;have b5:=zcz h5;have b6:=OD h6;have b7:=zcB h7;have b8:=IU h8;have b9:=OH h9;have b10:=OF vR;have b11:=OG BQ;have b12:=VR Fs;have b13:=OE Mx;have b14:=VP PO;go_enter func85,ntmps85
 go_wp2_with fail
 go_quiet (fail)
 go_wp2;go_ret2;exact⟨rfl,below_drewN zBr _⟩
section
open Go.Shelf
structure sL (w:World) (b:Addr):Prop where
 et:Q5 w
 bd:Q7 w b
 ml:∃m,w.cell? (zp 2)=some (zi m)
 pw:Go.Lib.TabIs prog w "internal/strconv.uint64pow10" .u64 Go.Lib.pow10Tab
 sx:∃t p,w.cell? (zp 5)=some (.iface t p)
 rg:∃t p,w.cell? (zp 6)=some (.iface t p)
theorem Yt:prog.globalNamed "internal/strconv.uint64pow10" = some 7:=SQ
theorem aP{a}{v}(h:w.cell? a=some v)(hb:zB w w'):w'.cell? a=some v:=by rw[hb.cell (qAA h)];exact h
theorem sL.below(h:sL w b)(hb:zB w w'):sL w' b:=by obtain⟨m,hm⟩:=h.ml;obtain⟨t1,p1,h1⟩:=h.sx;obtain⟨t2,p2,h2⟩:=h.rg;exact⟨h.et.below hb,h.bd.below hb,⟨m,aP hm hb⟩,Go.Joins.var_stays Yt h.pw hb zNr,⟨t1,p1,aP h1 hb⟩,⟨t2,p2,aP h2 hb⟩⟩
section
variable {w:World} {b:Addr}
def tx(l:List UInt8):BA:=⟨l.toArray⟩
theorem zhQ(hw:sL w b) s sep(hs:s.size<=3000) :
  zC 49 #[.string s,.string sep] w fun e w'=>e=zt #[.string (tx (Go.Lib.cut s.data.toList sep.data.toList).1),.string (tx (Go.Lib.cut s.data.toList sep.data.toList).2.1),.bool (Go.Lib.cut s.data.toList sep.data.toList).2.2]/\zB w w':=by
 obtain⟨m,hm⟩:=hw.ml;refine(Any.strings_Cut zjh s sep m w Sg hm).mono ?_;rintro e w' ⟨rfl,n,rfl⟩;exact⟨rfl,below_drewN zBr _⟩
theorem BF:(prog.info? 9).map (fun i=>(i.zero,i.size,i.bytes))=some (some (.string ByteArray.empty),1,16):=SQ
def jZ(s:BA):List BA:=Go.Lib.splitB ⟨#[32]⟩ 0 (Go.Lib.countB s ⟨#[32]⟩) s
theorem wH s:(jZ s).length=Go.Lib.countB s ⟨#[32]⟩+1:=Go.Lib.splitB_all ⟨#[32]⟩ Si 0 _ s rfl
theorem XD(hw:sL w b) s(hs:s.size<=3000) :
  zC 84 #[.string s,.string ⟨#[32]⟩] w fun e w'=>e=.returned (.slice (some (zp w.heap.size)) (jZ s).length (jZ s).length)/\w'=w.alloc (.cells ((jZ s).map Value.string).toArray 9):=by
 obtain⟨m,hm⟩:=hw.ml;refine(Any.strings_Split zba BF s ⟨#[32]⟩ m w Sg hm Si).mono ?_;rintro e w' ⟨rfl,rfl⟩;rw[wH];exact Uq
theorem zeL(hw:sL w b) s(hs:s.size<=3000) :
  zC 180 #[.string s] w fun e w'=>((∃v,Go.Lib.atoiAll s.data.toList=.ok v/\e=zt #[zi v,.nilIface])\/((∀v,Go.Lib.atoiAll s.data.toList≠.ok v)/\∃z t p,e=zt #[zi z,.iface t p]))/\zB w w':=by
 obtain⟨t1,p1,h1⟩:=hw.sx;obtain⟨t2,p2,h2⟩:=hw.rg;cases hq:Go.Lib.atoiAll s.data.toList with
 | ok v =>
  refine(Any.strconv_Atoi_ok Ss s Sg v hq w).mono ?_;rintro e w' ⟨rfl,hx⟩;refine⟨.inl ⟨v,rfl,rfl⟩,?_⟩;rcases hx with rfl|⟨t,rfl⟩
  ·exact zBr
  ·exact Go.Lib.bytesWorld_below _ _ _
 | range =>refine(Any.strconv_Atoi_range Ss s Sg hq _ w h2 (.inr ⟨_,_,rfl⟩)).mono ?_;rintro e w' ⟨N,rfl,_,_,hb⟩;exact⟨.inr ⟨(fun v h=>Um),_,_,_,rfl⟩,hb⟩
 | _ =>refine(Any.strconv_Atoi_syntax Ss s Sg hq _ w h1 (.inr ⟨_,_,rfl⟩)).mono ?_;rintro e w' ⟨N,rfl,_,_,hb⟩;exact⟨.inr ⟨(fun v h=>Um),_,_,_,rfl⟩,hb⟩
def jQ(n:Int):BA:=tx (Go.Lib.itoa n)
theorem qb(hw:sL w b) n(h0:-9223372036854775808<=n)(h1:n<=9223372036854775807) :
  zC 127 #[zi n] w fun e w'=>e=.returned (.string (jQ n))/\zB w w':=by
 refine(Any.strconv_Itoa zjs n h0 h1 w hw.pw).mono ?_;rintro e w' ⟨rfl,k,os,rfl⟩;exact⟨rfl,Go.Lib.below_grow _ w zNr k os⟩
theorem G6 s c w:zC 181 #[.string s,.int .u8 c] w fun e w'=>e=.returned (zi (Go.Lib.indexByte s.data.toList c.toNat.toUInt8))/\w=w':=by refine(Any.strings_IndexByte zjg s c w).mono ?_;rintro e w' ⟨rfl,rfl⟩;exact⟨rfl,rfl⟩
def rdN(s:BA):Option Int:=match Go.Lib.atoiAll s.data.toList with | .ok v=>if jQ v=s/\-999999999<=v/\v<=999999999 then some v else none | _=>none
def KJ(s:BA)(b:Addr):Value:=match rdN s with | some v=>.tuple #[zi v,.nilIface] | none=>.tuple #[zi 0,Hq b]
theorem zh3{l}(h:Go.Lib.atoiAll l=.ok v):-9223372036854775808<=v/\v<=9223372036854775807:=by
 cases l with
 | nil=>cases h
 | cons c r =>
  unfold Go.Lib.atoiAll at h;dsimp only at h;split at h
  ·cases h
  ·cases h
  ·rename_i u _
   split at h
   ·cases h
   ·rename_i h1
    split at h
    ·cases h
    ·rename_i h2
     injection h with h
     subst h;by_cases hn:c.toNat=45
     ·rw[zy hn];have:¬9223372036854775808<u:=fun hu=>h2 ⟨hn,hu⟩
      omega
     ·rw[zn hn];have:¬9223372036854775808<=u:=fun hu=>h1 ⟨hn,hu⟩
      omega
theorem zb4(h:∀v,Go.Lib.atoiAll s.data.toList≠.ok v):rdN s=none:=by
 unfold rdN;cases hq:Go.Lib.atoiAll s.data.toList with
 | ok v=>exact absurd hq (h v)
 | _=>rfl
theorem SV(h:Go.Lib.atoiAll s.data.toList=.ok v):rdN s=if jQ v=s/\-999999999<=v/\v<=999999999 then some v else none:=by unfold rdN;rw[h]
theorem Es(hw:sL w b) s(hs:s.size<=3000):zC 125 #[.string s] w fun e w'=>e=.returned (KJ s b)/\zB w w':=by
 have HI:=ae (fun(n:Int) (h0:-9223372036854775808<=n) (h1:n<=9223372036854775807) (W:World) (hW:zB w W)=>qb (hw.below hW) n h0 h1);have Mm:=ae (fun(W:World) (hW:zB w W)=>(hw.bd.below hW));have hA:=zeL hw s hs;clear hw;by_cases hq:∃v,Go.Lib.atoiAll s.data.toList=.ok v
 ·obtain⟨v,hv⟩:=hq;obtain⟨v0,v1⟩:=zh3 hv;have HA:Hid (zC 180 #[.string s] w fun e w'=>e=zt #[zi v,.nilIface]/\zB w w'):=ae (hA.mono (fun e w' h=>by
   obtain⟨h1|h1,hb⟩:=h
   ·obtain⟨v',hv',he⟩:=h1;rw[hv]at hv'
    injection hv' with hv'
    subst hv';exact⟨he,hb⟩
   ·exact absurd hv (h1.1 v)))
  have HC:=ae (fun W hW=>HI v v0 v1 W hW);have hr:=SV hv;by_cases hc:jQ v=s/\-999999999<=v/\v<=999999999
  ·rw[zy hc]at hr;have e:KJ s b=.tuple #[zi v,.nilIface]:=by unfold KJ;rw[hr]
   rw[e];obtain⟨c1,c2,c3⟩:=hc;have ay:=wJ.2 c1;generalize jQ v=I at*;go_enter func125,ntmps125
   go_wp2_with fail
   refine HA.m ?_;intro w1 ay;have qt:=ae (HC w1 ay);have aQ:=ae ay;clear HA ay HC;go_wp2_with fail
   refine qt.m ?_;intro w2 aK;have bz:=zTr aQ aK;clear aK qt aQ;go_wp2;go_ret2;exact⟨rfl,bz⟩
  ·rw[zn hc]at hr;have e:KJ s b=.tuple #[zi 0,Hq b]:=by unfold KJ;rw[hr]
   rw[e];unfold Hq;have hd:((jQ v).toList == s.toList)=false\/(((jQ v).toList == s.toList)=true/\(v < -999999999\/(¬v < -999999999/\v > 999999999))):=by
    by_cases h1:jQ v=s
    ·refine .inr ⟨wJ.2 h1,?_⟩;by_cases h2:v < -999999999
     ·exact .inl h2
     ·refine .inr ⟨h2,?_⟩;by_cases h3:v > 999999999
      ·exact h3
      ·exact absurd ⟨h1,Sg,Sg⟩ hc
    ·exact .inl (gC h1)
   clear hA HI hr e hc;generalize jQ v=I at*;rcases hd with hd|⟨hd,Wl|⟨Wl,hd3⟩⟩
   all_goals
    go_enter func125,ntmps125
    go_wp2_with fail
    refine HA.m ?_;intro w1 ay;have qt:=ae (HC w1 ay);have aQ:=ae ay;clear HA ay HC;go_wp2_with fail
    refine qt.m ?_;intro w2 aK;have dr:=zTs aQ aK;have iT:=Mm w2 dr;unfold Q7 at iT;have bz:=ae dr;clear aK qt aQ dr Mm;go_wp2_with fail
    go_quiet (fail)
    go_wp2;go_ret2;exact⟨rfl,below_drewN bz _⟩
 ·have ig:∀v,Go.Lib.atoiAll s.data.toList≠.ok v:=fun v hv=>hq ⟨v,hv⟩
  have e:KJ s b=.tuple #[zi 0,Hq b]:=by unfold KJ;rw[zb4 ig]
  rw[e];unfold Hq;have HA:Hid (zC 180 #[.string s] w fun e w'=>(∃z t p,e=zt #[zi z,.iface t p])/\zB w w'):=ae (hA.mono (fun e w' h=>by
   obtain⟨h1|h1,hb⟩:=h
   ·obtain⟨v,hv,_⟩:=h1;exact absurd hv (ig v)
   ·exact⟨h1.2,hb⟩))
  clear hA HI e ig hq;go_enter func125,ntmps125
  go_wp2_with fail
  refine HA.mono ?_;rintro e w1 ⟨⟨z,t,p,rfl⟩,ay⟩;have iT:=Mm w1 ay;unfold Q7 at iT;have aQ:=ae ay;clear HA ay Mm;go_wp2_with fail
  go_quiet (fail)
  go_wp2;go_ret2;exact⟨rfl,below_drewN aQ _⟩
end
end
def kQ:BA:=⟨#[48,49,50,51,52,53,54,55,56,57,97,98,99,100,101,102]⟩
def sV(c:UInt8):Int:=Go.Lib.indexByte kQ.data.toList c
theorem z7 c:∀l:List UInt8,-1<=Go.Lib.indexByte l c/\Go.Lib.indexByte l c<l.length
 | []=>by unfold Go.Lib.indexByte;simp
 | x::l=>by
  have ih:=z7 c l;unfold Go.Lib.indexByte;rw[zLc];split
  ·omega
  ·split <;> omega
theorem Fb c:sV c<16:=(z7 c kQ.data.toList).2
theorem zdA c w:zC 181 #[.string ⟨#[48,49,50,51,52,53,54,55,56,57,97,98,99,100,101,102]⟩,.int .u8 c.toNat] w fun e w'=>e=.returned (zi (sV c))/\w=w':=by
 have h:=G6 kQ c.toNat w;have e:((c.toNat:Int)).toNat.toUInt8=c:=by rw[zTn];exact UInt8.ofNat_toNat
 rw[e]at h;exact h
def Ri(x d:Int):Int:=bits .or .u8 (x*16%256) d
theorem u8_or_nat(a b:Nat)(ha:a<256)(hb:b<256):bits .or .u8 (a:Int) (b:Int)=((a ||| b:Nat):Int):=by
 have h1:=Nat.or_lt_two_pow (n:=8) ha hb
 show IntKind.u8.wrap ((BitVec.ofInt 8 (a:Int) ||| BitVec.ofInt 8 (b:Int)).toNat:Int)=_
 rw[BitVec.toNat_or,BitVec.ofInt_natCast,BitVec.ofInt_natCast,BitVec.toNat_ofNat,BitVec.toNat_ofNat,Nat.mod_eq_of_lt (show a<2 ^ 8 by omega),Nat.mod_eq_of_lt (show b<2 ^ 8 by omega)];generalize a ||| b=c at*;rw[IntKind.wrap_u8];omega
theorem zkj{x d}(hd:0<=d/\d<16):0<=Ri x d/\Ri x d<=255:=by obtain⟨a,ha⟩:∃a:Nat,x*16%256=a:=⟨(x*16%256).toNat,Sg⟩;obtain⟨k,rfl⟩:∃k:Nat,d=k:=⟨d.toNat,Sg⟩;unfold Ri;rw[ha,u8_or_nat a k Sg Sg];have h1:a ||| k<256:=Nat.or_lt_two_pow (n:=8) Sg Sg;omega
def hZ(s:BA)(i:Nat):UInt8:=s.data.toList.getD i 0
def BG(s:BA):Nat->LI
 | 0=>af (s.size / 2)
 | i+1=>(BG s i).set (i / 2) (Ri ((BG s i).getD (i / 2) 0) (sV (hZ s i)))
theorem Ab s:∀i,(BG s i).length=s.size / 2
 | 0=>ag _
 | i+1=>by
  show((BG s i).set _ _).length=_
  rw[qAz];exact Ab s i
theorem Dv s:∀i,(∀j,j<i->0<=sV (hZ s j))->bZ (BG s i)
 | 0,_=>cI _
 | i+1,h=>L7 (Dv s i (fun j hj=>h j Sg)) _ _ (zkj ⟨h i Sg,Fb _⟩)
def Mr(s:BA):Option (LI):=if s.size%2=0/\∀j,j<s.size->0<=sV (hZ s j)then some (BG s s.size)else none
def RdH(w:World)(b:Addr)(s:BA)(e:Ending)(w':World):Prop:=zB w w'/\((∃l g,Mr s=some l/\e=zt #[.slice (zo g) l.length l.length,.nilIface]/\gz w' g l/\w.heap.size<=g)\/(Mr s=none/\e=zt #[.slice none 0 0,Hq b]))
theorem kO{i} h:hZ s i=s[i]:=by unfold hZ;rw[qAC,qCV,qBX h];rfl
theorem NT s b w(hw:sL w b)(hs:s.size<=3000):zC 126 #[.string s] w (RdH w b s):=by
 have iT:=hw.bd;unfold Q7 at iT;by_cases he:(s.size:Int)%2=0
 ·have tN:∀w',Sem.run prog (Instr.makeSlice 29 (zi ((s.size:Int) / 2)) (zi ((s.size:Int) / 2))) w'=.ok (.slice (some ⟨w'.heap.size,0,none⟩) (s.size / 2) (s.size / 2)) (EM w' (s.size / 2)):=fun w'=>by have h:=nM w' (s.size / 2) Sg;rw[show(((s.size / 2:Nat):Int))=(s.size:Int) / 2 by omega]at h;exact h
  have pQ:=ae (And.intro (xa w (s.size / 2)) (lu w (s.size / 2)));have Mm:=ae (fun(W:World) (hW:zB w W)=>hw.bd.below hW);have heb:((s.size:Int)%2 != 0)=false:=bne_eq_false_iff_eq.2 he;have HE:=ae he;clear hw iT he;go_enter func126,ntmps126
  go_wp2_with fail
  go_loopw [5,6,18] (fun _ _ iv wr=>∃ (i:Nat),i<=s.size/\iv=zi i/\gz wr w.heap.size (BG s i)/\(∀j,j<i->0<=sV (hZ s j))/\zB w wr) (fun _ _ iv _=>s.size-(intOf iv).toNat)
  case atStart=>exact⟨0,qAH _,rfl,pQ.1,fun j hj=>absurd hj (qAX _),pQ.2⟩
  case round =>
   obtain⟨i,hi,rfl,hb,oA,ai⟩:=hrel;by_cases aB:i<s.size
   ·have fu:(0:Int)<=(i:Int) / 2:=by omega
    have zsa:(i:Int) / 2<((s.size / 2:Nat):Int):=by have:=aa HE;omega
    have kS:=hb.cell (i / 2) (by rw[Ab];have:=aa HE;omega);have oI:=hb.frozen (i / 2);have Lo:((i:Int) / 2).toNat=i / 2:=Sg;have iT:=Mm _ ai;unfold Q7 at iT;have HD:=ae (fun W=>zdA s[i] W);have HSU:Hid (BG s (i+1)=(BG s i).set (i / 2) (Ri ((BG s i).getD (i / 2) 0) (sV (hZ s i)))):=ae rfl;rw[kO aB]at HSU;have HGD:=ae oA;have HCA:=ae (kO aB);have T9:=Fb s[i];have GD:=ae (fun c=>hb.set (i / 2) c);have sO:=ae (fun c=>ai.setCell (p:=⟨w.heap.size,i / 2,none⟩) zNr (.int .u8 c));have zie:=ae ai;clear hb oA ai pQ Mm;by_cases hd0:sV s[i]<0
    ·have Mi:Hid (Mr s=none):=ae (zn (fun h=>by have:=h.2 i aB;rw[aa HCA]at this;omega));generalize sV s[i]=d at*;generalize (BG s i).getD (i / 2) 0=x at*;go_wp2_with fail
     refine(HD _).mono ?_;rintro e w' ⟨rfl,rfl⟩;go_wp2_with fail
     go_quiet (fail)
     go_wp2;go_ret2;exact⟨below_drewN zie _,.inr ⟨Mi,rfl⟩⟩
    ·have MF:Hid (∀j,j<i+1->0<=sV (hZ s j)):=ae (fun j hj=>by
      by_cases h:j<i
      ·exact HGD j h
      ·obtain rfl:j=i:=by omega
       rw[aa HCA];omega)
     have dF:=ae (GD (Ri ((BG s i).getD (i / 2) 0) (sV s[i])));have fh:=ae (sO (Ri ((BG s i).getD (i / 2) 0) (sV s[i])));rw[<-aa HSU]at dF;unfold Ri at dF fh;generalize sV s[i]=d at*;generalize (BG s i).getD (i / 2) 0=x at*;clear GD sO HSU HGD HCA;go_wp2_with fail
     refine(HD _).mono ?_;rintro e w' ⟨rfl,rfl⟩;go_wp2;go_roundw
     case rel=>exact⟨i+1,Sg,Tc,dF,MF,fh⟩
     case measure=>exact Te
   ·obtain rfl:i=s.size:=by omega
    have hr:Mr s=some (BG s s.size):=zy ⟨by have:=aa HE;omega,oA⟩;have hl:=Ab s s.size;have HB:=ae (And.intro hb ai);clear hb ai pQ Mm oA;go_wp2;go_ret2;exact⟨HB.2,.inl ⟨_,_,hr,by rw[hl];rfl,HB.1,zNr⟩⟩
 ·have hr:Mr s=none:=zn (fun h=>he zgR);have heb:((s.size:Int)%2 != 0)=true:=qBZ.2 he;clear hw;go_enter func126,ntmps126
  go_wp2_with fail
  go_quiet (fail)
  go_wp2;go_ret2;exact⟨below_drewN zBr _,.inr ⟨hr,rfl⟩⟩
end
variable {P:Program}{w w':World}{B n k T c g i:Nat}{v v':Value}{ops:Array Oper}{rest:List Oper}{o:Oper}{a:Act}{Q:Exit->Act->World->Prop}{l:LI}{b:Addr}{s f:BA}{an:OA}
open Tryz
open Go.RowKit
theorem DZ s:Go.Lib.strCells s=(c7 s).map (Value.int .u8):=by unfold Go.Lib.strCells c7;rw[qDK];rfl
theorem Xr{t u ty:TypeId}{i:TypeInfo}(ht:P.underlying t=some (.slice 5))(hu:P.underlying u=some .string)(hi:P.info? 5=some i)(hz:i.zero=some (.int .u8 0))(h4:i.size=1)(h5:i.bytes=1){xs}(az:w.ownsRow B 5 1 v n xs) S(hL:n+S.size<=140737488351232)(hr:(Builtin.append_ #[t,u] ty #[v,.string S]).run P w=.ok v' w') :
  v'.ownBlock=v.ownBlock\/v'.ownBlock=some w.heap.size:=by
 have hxl:xs.length=n:=by simpa using az.1
 rcases az.2 with ⟨rfl,rfl⟩|⟨g,cap,cur,rfl,hbg,hg,hnc,Rr,lC,zdl⟩
 ·by_cases hm:S.size=0
  ·have hf:=Go.Lib.run_firstCells_string (P:=P) w 1 S;rw[hm]at hf;simp[Builtin.append_,qCi ht,qCi hu,sizeOf,typeInfo,hi,h4,Builtin.lenOf,hm,hf]at hr;rw[<-hr.1];exact .inl rfl
  ·have h:=run_append_nil_string (P:=P) w t u ty 5 i (.int .u8 0) ht hu hi hz S Sg Sg Xu;rw[h]at hr
   injection hr with e1 e2
   rw[<-e1];exact .inr rfl
 ·by_cases zis:n+S.size<=cap
  ·have zsr:cur.size=cap:=by simpa using lC
   have h:=Go.Lib.run_append_room_string (P:=P) w t u ty 5 i ht hu hi h4 g n cap cur hg S zis Sg;rw[h]at hr
   injection hr with e1 e2
   rw[<-e1];exact .inl rfl
  ·have holds:=az.cells (g:=g) rfl;have h:=Go.Lib.run_append_grow_string (P:=P) w t u ty 5 i (.int .u8 0) ht hu hi hz (zp g) n cap xs (by rw[h4];simpa using hxl) holds S Sg Sg (by rw[h5];exact growslice_fits Sg Sg);rw[h]at hr
   injection hr with e1 e2
   rw[<-e1];exact .inr rfl
theorem A5(oA:o.guard=none) s x(t u:TypeId)(ho:o.op=.call { callee:=.builtin .append,args:=#[s,x],argTypes:=#[t,u]})(i:TypeInfo)(ht:P.underlying t=some (.slice 5))(hu:P.underlying u=some .string)(hi:P.info? 5=some i)(hz:i.zero=some (.int .u8 0))(h4:i.size=1)(h5:i.bytes=1) B v L(hs:a.eval s=v)(az:cW w B v L)(hB:B<=w.heap.size) S(hx:a.eval x=.string S)(hL:L.length+S.size<=140737488351232)(h:∀v' w',cW w' B v' (L++c7 S)->w.grownBy w' v.ownBlock->(v'.ownBlock=v.ownBlock\/v'.ownBlock=some w.heap.size)->wpList P ops Q rest (a.put o.dst v') w') :
  wpList P ops Q (o::rest) a w:=by
 refine wpList_plain oA fun K hK=>?_
 obtain⟨v',w',hr,h2,h3,_⟩:=Go.Lib.run_append_own_string (P:=P) w B t u o.type 5 i ht hu hi hz h4 h5 v _ _ az S Ts Sg hB;have yG:=Xr ht hu hi hz h4 h5 az S Sg hr;unfold Oper.wp execOp;simp only[ho,resolve,invoke,builtin,Sem.run_bind,Sem.run_pure,Result.andThen_ok,List.map_toArray,qAn,qCz,hs,hx,hr];refine hK _ _ (h v' w' ?_ h3 yG);unfold cW;rw[zLa,qAc,bY,<-DZ];exact h2
structure Bu (w:World) (B b:Nat) (v:Value) (L:LI):Prop where
 ge:B<=b
 qq:∃p,(p=.pointer none\/p=zq b)/\w.heap[b]?=some (.cells #[p,v] 41 (0,0))
 own:cW w B v L
 ne:v.ownBlock≠some b
def Ho(b:Nat)(v:Value)(k:Nat):Prop:=k=b\/v.ownBlock=some k
section
variable {w w':World} {B b:Nat} {v:Value} {L:LI}
theorem Bu.lt(h:Bu w B b v L):∀k,Ho b v k->k<w.heap.size:=fun k hk=>by
 rcases hk with rfl|hk
 ·obtain⟨p,_,hb⟩:=h.qq;exact(zAg hb).1
 ·rcases h.own.2 with ⟨rfl,_⟩|⟨g,cap,cur,rfl,hB,hg,_⟩
  ·cases hk
  ·simp[Value.ownBlock]at hk;subst hk;exact(zAg hg).1
theorem Bu.le(h:Bu w B b v L):∀k,Ho b v k->B<=k:=fun k hk=>by
 rcases hk with rfl|hk
 ·exact h.ge
 ·exact h.own.block k hk
theorem cW.zc3(h:cW w B v L)(hs:∀k,v.ownBlock=some k->w'.heap[k]?=w.heap[k]?):cW w' B v L:=by
 obtain⟨h1,h2⟩:=h;refine⟨h1,?_⟩;rcases h2 with h2|⟨g,cap,cur,rfl,hB,hg,hr⟩
 ·exact .inl h2
 ·exact .inr ⟨g,cap,cur,rfl,hB,by rw[hs g rfl];exact hg,hr⟩
theorem Bu.kept(h:Bu w B b v L)(hs:∀k,Ho b v k->w'.heap[k]?=w.heap[k]?):Bu w' B b v L:=by obtain⟨p,hp,hb⟩:=h.qq;exact⟨h.ge,⟨p,hp,by rw[hs b (.inl rfl)];exact hb⟩,h.own.zc3 (fun k hk=>hs k (.inr hk)),h.ne⟩
theorem Bu.below(h:Bu w B b v L)(hb:zB w w'):Bu w' B b v L:=h.kept (fun k hk=>hb.block k (h.lt k hk))
theorem Bu.cQ{S S'}(h:Bu w B b v L)(ht:au S S' w w')(hn:∀k,Ho b v k->¬S k):Bu w' B b v L:=h.kept (fun k hk=>ht.block k (h.lt k hk) (hn k hk))
theorem Bu.new(w:World)(hB:B<=w.heap.size):Bu (w.alloc (.cells #[.pointer none,.slice none 0 0] 41)) B w.heap.size (.slice none 0 0) [] :=⟨hB,⟨_,.inl rfl,qAB _ _⟩,cW.nil _ _,fun h=>Um⟩
theorem Pb:(prog.info? 41).map (·.size)=some 2:=SQ
theorem zgV:liesAt prog prog.depth 41 (2 / prog.cellsOf 41) 0 41 1=true:=SQ
theorem rA(h:Bu w B b v L):zC 50 #[zq b] w (zr (.tuple #[]) fun w'=>w'.heap[b]?=some (.cells #[zq b,v] 41 (0,0))/\cW w' B v L/\au (Ho b v) (Ho b v) w w'):=by
 obtain⟨p,hp,hb⟩:=h.qq;have c0:w.cell? (zp b)=some p:=by rw[Go.Lib.cell_of_heap hb];rfl
 rcases hp with rfl|rfl
 ·obtain⟨j,hj,hjs⟩:=Option.map_eq_some_iff.1 Pb;have hsh:w.shape? b=some (41,2):=by simp[World.shape?,hb]
  have oI:=Go.Lib.frozen_of_heap hb 0;have HE:=ae (show(w.setCell (zp b) (zq b)).heap[b]?=some (.cells #[zq b,v] 41 (0,0)) by simp[World.setCell,qCD,hb]);have HO:Hid (cW (w.setCell (zp b) (zq b)) B v L):=ae (h.own.zc3 (fun k hk=>by
   have aG:k≠b:=fun e=>h.ne zas
   simp[World.setCell,qCD,Ne.symm aG]))
  have HT:Hid (au (Ho b v) (Ho b v) w (w.setCell (zp b) (zq b))):=ae (au.setCell w _ (.inl rfl));clear h hb;go_enter func50,ntmps50
  go_wp2;rw[Go.Lib.run_to_unsafe w (zp b) underlying39 underlying161 hj (by rw[hjs];decide) hsh (Nat.zero_lt_succ 1)];simp only[Result.andThen];rw[Oper.upon_value];go_wp2;rw[run_callFunc_extern func83 SQ SQ SQ (e:=Extern.AbiNoEscape.same) SQ];rw[Go.Lib.run_noEscape];simp only[Result.andThen];rw[Oper.upon_value];go_wp2;rw[Go.Lib.run_from_unsafe w (zp b) underlying161 underlying39 hj hsh zgV];simp only[Result.andThen];rw[Oper.upon_value];go_wp2
  go_end0
  exact⟨rfl,HE,HO,HT⟩
 ·have HH:=ae (And.intro hb h.own);obtain⟨j,hj,hjs⟩:=Option.map_eq_some_iff.1 Pb;clear h hb;go_enter func50,ntmps50
  go_wp2;rw[Go.Lib.run_neq_ptr_same w _ underlying39 hj];go_wp2
  go_end0
  exact⟨rfl,HH.1,HH.2,au.refl _ _⟩
def BuT(w:World)(B b:Nat)(v:Value)(L:LI)(w':World):Prop:=∃v',Bu w' B b v' L/\au (Ho b v) (Ho b v') w w'
theorem zeD{w1 w2}{M}(mi:B<=b)(h2:w1.heap[b]?=some (.cells #[zq b,v] 41 (0,0)))(ho:cW w2 B v' M)(hg:w1.grownBy w2 v.ownBlock)(yG:v'.ownBlock=v.ownBlock\/v'.ownBlock=some w1.heap.size)(aG:v.ownBlock≠some b)(ht:au (Ho b v) (Ho b v) w w1) :
  w2.heap[b]?=some (.cells #[zq b,v] 41 (0,0))/\BuT w B b v M (w2.setCell (zw b 1) v'):=by
 have aB:=(zAg h2).1;have aK:w2.heap[b]?=some (.cells #[zq b,v] 41 (0,0)):=by rw[hg.block b aB (fun e=>aG e.symm)];exact h2
 have T0:v'.ownBlock≠some b:=fun e=>by
  rcases yG with h|h
  ·rw[h]at e;exact aG e
  ·rw[h]at e;simp only[qAQ]at e;omega
 refine⟨aK,v',⟨mi,⟨_,.inr rfl,by simp[World.setCell,qCD,aK]⟩,ho.zc3 (fun k hk=>?_),T0⟩,?_⟩
 ·have:k≠b:=fun e=>T0 zas
  simp[World.setCell,qCD,Ne.symm this]
 ·have t1:au (Ho b v) (Ho b v) w1 w2:=au.grown hg (fun k hk=>.inr hk);have t2:au (Ho b v) (Ho b v) w2 (w2.setCell (zw b 1) v'):=au.setCell w2 _ (.inl rfl);have t3:=ht.trans (t1.trans t2);refine⟨t3.os,t3.tape,t3.output,t3.size,t3.block,fun k hk hf=>?_⟩;rcases hf with hf | hf
  ·exact .inl hf
  ·rcases yG with h|h
   ·exact .inr (by rw[<-h];exact hf)
   ·rw[h]at hf;simp only[qAQ]at hf;have:=ht.size;omega
theorem dM(h:Bu w B b v L)(hB:B<=w.heap.size) s(hl:L.length+s.size<=140737488351232) :
  zC 11 #[zq b,.string s] w (zr (.tuple #[zi s.size,.nilIface]) fun w'=>BuT w B b v (L++c7 s) w'):=by
 obtain⟨i0,dU,cO,cU,cV⟩:=qAO dw;have HC:=ae (rA h);have HG:=ae (And.intro h.ge h.ne);go_enter func11,ntmps11
 go_wp2_with fail
 refine HC.m ?_;rintro w1 ⟨ay,ru,mS⟩;have c1:w1.cell? (zw b 1)=some v:=ziQ;have fQ:=mS.size;have HH:=ae (And.intro ay (And.intro ru mS));go_wp2_with (at_builtin;refine A5 rfl _ _ 29 9 rfl i0 underlying29 underlying9 dU cO cU cV B v L rfl HH.2.1 Sg s rfl hl ?_)
 intro v' w2 nU um yG;obtain⟨d2,hT⟩:=zeD HG.1 HH.1 nU um yG HG.2 HH.2.2;have d1:w2.cell? (zw b 1)=some v:=by rw[Go.Lib.cell_of_heap d2];rfl
 have f1:=Go.Lib.frozen_of_heap d2 1;obtain⟨a',n',c',rfl⟩:∃a' n' c',v'=.slice a' n' c':=by exact OV
 have HT:=ae hT;go_wp2;go_ret2;exact⟨rfl,HT⟩
theorem rj(h:Bu w B b v L)(hB:B<=w.heap.size) z(hl:L.length+1<=140737488351232) :
  zC 13 #[zq b,.int .u8 z] w (zr .nilIface fun w'=>BuT w B b v (L++[z]) w'):=by
 obtain⟨i0,dU,cO,cU,cV⟩:=qAO dw;have HC:=ae (rA h);have HG:=ae (And.intro h.ge h.ne);go_enter func13,ntmps13
 go_wp2_with fail
 refine HC.m ?_;rintro w1 ⟨ay,ru,mS⟩;have c1:w1.cell? (zw b 1)=some v:=ziQ;have fQ:=mS.size;have aB:b<w1.heap.size:=(zAg ay).1;have eh:zB w1 (w1.alloc (.cells #[.int .u8 z] 5)):=zBr.alloc zNr _;have HH:=ae (And.intro ((eh.block b aB).trans ay) (And.intro (ru.below eh) (mS.trans (au.aI (S:=Ho b v) eh))));have gN:B<=(w1.alloc (.cells #[.int .u8 z] 5)).heap.size:=by have:=eh.size;omega
 go_wp2_with (at_builtin;refine wpList_append_own_at _ rfl _ _ 29 rfl B 5 i0 (.int .u8 0) 1 1 underlying29 dU cO cU cV rfl Si v _ _ rfl HH.2.1 (zp w1.heap.size) 1 1 [.int .u8 z] rfl rfl (fun j u hj=>(match j,hj with | 0,hj=>by simp at hj;subst hj;simp[Addr.add])) (fun u hu=>by simp at hu;subst hu;rfl) Ts Sg gN ?_)
 intro v' w2 nU um _ yG;have xi:cW w2 B v' (L++[z]):=by unfold cW;rw[zLa,qAc];exact nU
 obtain⟨d2,hT⟩:=zeD HG.1 HH.1 xi um (by simpa using yG) HG.2 HH.2.2;have d1:w2.cell? (zw b 1)=some v:=by rw[Go.Lib.cell_of_heap d2];rfl
 have f1:=Go.Lib.frozen_of_heap d2 1;obtain⟨a',n',c',rfl⟩:∃a' n' c',v'=.slice a' n' c':=by exact OV
 have HT:=ae hT;go_wp2;go_ret;exact⟨rfl,HT⟩
end
section
open Go.Shelf
section
variable {w:World} {b:Addr}
def GV(n k:Int):BA:=if k=0 then jQ n else nJ k
theorem pZ(hw:sL w b) n k(h0:-9223372036854775808<=n)(h1:n<=9223372036854775807):zC 88 #[zi n,bc k] w (zr (.string (GV n k)) fun w'=>zB w w'):=by
 have HT:=ae (jI k b w hw.bd hw.et);have HI:=ae (qb hw n h0 h1);unfold GV;by_cases h:k=0
 ·subst h;rw[aC,zy rfl];generalize jQ n=S at*;go_enter func88,ntmps88
  go_wp2_with fail
  refine HI.m ?_;exact ziJ
 ·rw[aF k h]at HT ⊢;rw[zn h];generalize nJ k=S at*;go_enter func88,ntmps88
  exact qL
def noS(q:Bool)(k:Int):BA:=if k=0 then (if q=true then ⟨#[110,101,119]⟩else ⟨#[111,108,100]⟩)else nJ k
theorem K4(hw:sL w b) q k:zC 94 #[.bool q,bc k] w (zr (.string (noS q k)) fun w'=>zB w w'):=by
 have HT:=ae (jI k b w hw.bd hw.et);unfold noS;by_cases h:k=0
 ·subst h;rw[aC,zy rfl];cases q
  ·rw[zn Si];go_enter func94,ntmps94
   exact zbL
  ·rw[zy rfl];go_enter func94,ntmps94
   exact zbL
 ·rw[aF k h]at HT ⊢;rw[zn h];generalize nJ k=S at*;go_enter func94,ntmps94
  exact qL
theorem Pa:Builder.Extra prog CK:={ sizeBuilder:=SQ,liesBuilder:=SQ,t5:=underlying5,a5:=isAgg5,z5:=sizeOf5,v5:=zeroValue5,infoByte:=SQ,cellsByte:=SQ,sizeByte:=SQ,neB5:=by decide }
theorem tZ l(hl:bZ l):Go.Lib.byteCells (strOf l).data.toList=l.map (Value.int .u8):=by have h:=DZ (strOf l);rw[iN l hl]at h;exact h
theorem AG{bk:Nat}{L}(h:Bu w B bk v L)(hL:bZ L)(hB:B<=w.heap.size):zC 14 #[zq bk] w (zr (.string (strOf L)) fun w'=>Below B w w'):=by
 obtain⟨p,hp,hb⟩:=h.qq;have az:w.ownsRow B 5 1 v L.length (Go.Lib.byteCells (strOf L).data.toList):=by rw[tZ L hL];exact h.own
 have hlen:(Go.Lib.byteCells (strOf L).data.toList).length=L.length:=by rw[tZ L hL,zLm]
 have rI:=Go.Lib.BuilderAtF.of ⟨h.ge,v,hb,by rw[hlen];exact az,h.ne⟩;have his:Go.Lib.IsBuilderF 41 5 B bk (Go.Lib.byteCells (strOf L).data.toList) w:=by
  rcases hp with rfl|rfl
  ·exact .inl rI
  ·exact .inr rI
 refine(Any.Builder_String_any_k WY Pa B bk (strOf L).data.toList w his hB).mono ?_;rintro e w' ⟨rfl,_,pI,_⟩;exact⟨rfl,pI⟩
end
end
theorem yh{α:Type}{enc:α->List Value}{k T:Nat}{P:Program}{w:World}{ops:Array Oper}{rest:List Oper}{o:Oper}{a:Act}{Q:Exit->Act->World->Prop}(oA:o.guard=none)(s x:Operand)(t:TypeId)
  (ho:o.op=.call { callee:=.builtin .append,args:=#[s,x],argTypes:=#[t,t]}) (B:Nat) (i0:TypeInfo) (z:Value) (bytes:Nat)
  (ht:P.underlying t=some (.slice T)) (hi:P.info? T=some i0) (hz:i0.zero=some z) (uh:i0.size=k) (iF:i0.bytes=bytes) (hzs:z.cells.size=k) (bW:0<k) (vQ:bytes<=100)
  (v:Value) (l:List α) (hs:a.eval s=v) (az:cX enc k T w B v l) (g:Nat) (y:α) (hx:a.eval x=.slice (some (zp g)) 1 1)
  (hy:w.heap[g]?=some (.cells (enc y).toArray T (0,0))) (hk:(enc y).length=k) (h1:∀u∈enc y,u.oneCell'=true) (hn:l.length<=1000) (hB:B<=w.heap.size)
  (h:∀v' w',cX enc k T w' B v' (l++[y])->Below B w w'->(∀j,j<w.heap.size->v.ownBlock≠some j->w'.heap[j]?=w.heap[j]?)->(v'.ownBlock=v.ownBlock\/v'.ownBlock=some w.heap.size)->wpList P ops Q rest (a.put o.dst v') w') :
  wpList P ops Q (o::rest) a w:=by
 refine wpList_append_own_at w oA s x t ho B T i0 z k bytes ht hi hz uh iF hzs bW v l.length (l.flatMap enc) hs az (zp g) 1 1 (enc y) hx zdg (fun j u hj=>?_) h1 Ts (qAF (qCg (show l.length+1<=1001 by omega) vQ) Si) hB ?_
 ·rw[addr_add,qAl,qAD _ _ _ _ _ _ hy];exact zbh
 ·intro v' w' sX oH _ yG;refine h v' w' ?_ (zBr.grown oH hB (fun k hk=>az.block k hk)) (fun j hj aG=>oH.block j hj (fun e=>aG e.symm)) yG;exact zjb
theorem Bs.V8{a}{cap}(h:Bs w a cap l)(hs:∀x,a=some x->w'.heap[x.block]?=w.heap[x.block]?):Bs w' a cap l:=by obtain⟨h1,h2,h3,h4,h5⟩:=h;refine⟨h1,h2,h3,h4,fun aG=>?_⟩;obtain⟨b,off,rfl,hc⟩:=h5 aG;exact⟨b,off,rfl,fun i hi=>(qAJ (a:=⟨b,off+i,none⟩) (hs ⟨b,off,none⟩ rfl)).trans (hc i hi)⟩
theorem cX.zjP{α:Type}{enc:α->List Value}{k T:Nat}{w:World}{B:Nat}{v:Value}{l:List α}(h:cX enc k T w B v l){b:Nat}(hb:v.ownBlock=some b):b<w.heap.size:=by
 rcases h.2 with ⟨rfl,_⟩|⟨g1,cap1,cur1,rfl,ia,eT,_⟩
 ·cases hb
 ·simp[Value.ownBlock]at hb;subst hb;exact(zAg eT).1
structure Od where
 row:BA
 cz:LI
 name:BA
 body:LI
def tkO(k:Int)(s:BA)(o:Od):Option Od :=
 if k=78 then (match rdN s with | some v=>some { o with cz:=o.cz++[v]} | none=>none)
 else if k=72 then (match Mr s with | some l=>some { o with body:=l } | none=>none)
 else some { o with name:=s }
theorem Vm s o:tkO 65 s o=some { o with name:=s }:=by unfold tkO;rw[zn Si,zn Si]
theorem R8(h:Mr s=some l) o:tkO 72 s o=some { o with body:=l }:=zml
theorem Kb(h:Mr s=none) o:tkO 72 s o=none:=zml
theorem R7{v}(h:rdN s=some v) o:tkO 78 s o=some { o with cz:=o.cz++[v]}:=by unfold tkO;rw[zy rfl,h]
theorem Ka(h:rdN s=none) o:tkO 78 s o=none:=by unfold tkO;rw[zy rfl,h]
def Md(w:World)(B g:Nat)(o:Od):Prop:=∃an cn a c,w.heap[g]?=some (.cells #[.string o.row,.slice an o.cz.length cn,.string o.name,.slice a o.body.length c] 112 (0,0))/\cX jx 1 3 w B (.slice an o.cz.length cn) o.cz/\Bs w a c o.body/\(∀x,an=some x->x.block≠g)/\(∀x,a=some x->x.block≠g/\(x.block<w.heap.size/\B<=x.block)/\∀y,an=some y->y.block≠x.block)/\B<=g
theorem Th(h:(Value.slice an n c).ownBlock=some k):∃x,an=some x/\x.block=k:=by
 cases an with
 | none=>cases h
 | some x=>simp[Value.ownBlock]at h;exact⟨x,rfl,h⟩
theorem zI(h:∀x,an=some x->x.block≠k):(Value.slice an n c).ownBlock≠some k:=fun e=>by obtain⟨x,hx,hk⟩:=Th e;exact h x hx hk
section
variable {w w':World} {B g:Nat} {o:Od} {b:Addr}
theorem Md.lt(h:Md w B g o):g<w.heap.size:=by obtain⟨_,_,_,_,h1,_⟩:=h;exact(zAg h1).1
theorem Md.below(h:Md w B g o)(hb:zB w w'):Md w' B g o:=by have aB:=h.lt;obtain⟨an,cn,a,c,h1,h2,h3,h4,h5,h6⟩:=h;exact⟨an,cn,a,c,by rw[hb.block g aB];exact h1,h2.below hb,h3.below hb,h4,fun x hx=>⟨(h5 x hx).1,⟨qAL (h5 x hx).2.1.1 hb.size,(h5 x hx).2.1.2⟩,(h5 x hx).2.2⟩,h6⟩
theorem heap_set{cs}{T:TypeId}(h:w.heap[g]?=some (.cells cs T (0,0))) v:(w.setCell (zw g i) v).heap[g]?=some (.cells (cs.setIfInBounds i v) T (0,0)):=by simp[World.setCell,qCD,h]
theorem iC(hk:k≠g) v:(w.setCell (zw g i) v).heap[k]?=w.heap[k]?:=by simp[World.setCell,qCD,Ne.symm hk]
theorem cX.V7{α:Type}{enc:α->List Value}{k T:Nat}{v:Value}{l:List α}(h:cX enc k T w B v l)(hs:∀j,v.ownBlock=some j->w'.heap[j]?=w.heap[j]?):cX enc k T w' B v l:=by
 obtain⟨h1,h2⟩:=h;refine⟨h1,?_⟩;rcases h2 with h2|⟨g1,cap,cur,rfl,hB,hg,hr⟩
 ·exact .inl h2
 ·exact .inr ⟨g1,cap,cur,rfl,hB,by rw[hs g1 rfl];exact hg,hr⟩
theorem Md.setName(h:Md w B g o) s:Md (w.setCell (zw g 2) (.string s)) B g { o with name:=s }:=by obtain⟨an,cn,a,c,h1,h2,h3,h4,h5,h6⟩:=h;refine⟨an,cn,a,c,heap_set h1 _,h2.V7 (fun j hj=>iC (fun e=>zI h4 (by rw[hj,e])) _),h3.V8 (fun x hx=>iC (h5 x hx).1 _),h4,fun x hx=>⟨(h5 x hx).1,⟨by have:=(h5 x hx).2.1.1;simpa using this,(h5 x hx).2.1.2⟩,(h5 x hx).2.2⟩,h6⟩
theorem Md.setBody{gl}(h:Md w B g o)(hl:Bs w (zo gl) l.length l)(aB:gl<w.heap.size)(hBl:B<=gl)(hg:gl≠g)(hn:∀an cn,w.cell? (zw g 1)=some (.slice an o.cz.length cn)->∀y,an=some y->y.block≠gl):Md (w.setCell (zw g 3) (.slice (zo gl) l.length l.length)) B g { o with body:=l }:=by
 obtain⟨an,cn,a,c,h1,h2,h3,h4,h5,h6⟩:=h;refine⟨an,cn,_,_,heap_set h1 _,h2.V7 (fun j hj=>iC (fun e=>zI h4 (by rw[hj,e])) _),hl.V8 (fun x hx=>?_),h4,fun x hx=>?_,h6⟩
 ·simp only[qAQ]at hx;subst hx;exact iC hg _
 ·simp only[qAQ]at hx;subst hx;exact⟨hg,⟨by simpa using aB,hBl⟩,fun y hy=>hn an cn Vk y hy⟩
def TkP(w:World)(B g:Nat)(b:Addr)(x:Option Od)(e:Ending)(w':World):Prop:=Below B w w'/\(match x with | some o=>e=.returned .nilIface/\Md w' B g o | none=>e=.returned (Hq b))
theorem Xz s(h:Md w B g o):zC 86 #[zq g,.int .u8 65,.string s] w (TkP w B g b (tkO 65 s o)):=by
 have HN:=ae (h.setName s);have mi:B<=g:=zj2;have HB:=ae ((Below.refl B w).setCell (p:=⟨g,2,none⟩) mi (.string s));obtain⟨an,cn,a,c,h1,_⟩:=h;have c2:w.cell? (zw g 2)=some (.string o.name):=Vk;have f2:=Go.Lib.frozen_of_heap h1 2;rw[Vm];go_enter func86,ntmps86
 go_wp2;go_ret;exact⟨HB,rfl,HN⟩
theorem za8(hw:sL w b) s(hs:s.size<=3000)(h:Md w B g o)(hB:B<=w.heap.size):zC 86 #[zq g,.int .u8 72,.string s] w (TkP w B g b (tkO 72 s o)):=by
 have HX:=ae (NT s b w hw hs);have HO:=ae (fun(W:World) (hW:zB w W)=>h.below hW);have mi:B<=g:=zj2
 have aB:=h.lt;obtain⟨an0,cn0,a0,c0,k1,k2,_⟩:=h;have k3:w.cell? ⟨g,1,none⟩=some (.slice an0 o.cz.length cn0):=by rw[Go.Lib.cell_of_heap k1];rfl
 have zrf:=ae (fun(y:Addr) (hy:an0=some y)=>k2.zjP (b:=y.block) (by rw[hy];rfl));have JW:=ae k3;clear hw k1 k2 k3;go_enter func86,ntmps86
 go_wp2_with fail
 refine HX.mono ?_;rintro e w1 ⟨ay,hx⟩;have ru:=HO w1 ay;have B7:=ae ru;obtain⟨an,cn,a,c,h1,h2,h3,h4,h5,h6⟩:=ru;have c3:w1.cell? ⟨g,3,none⟩=some (.slice a o.body.length c):=Vk
 have f3:w1.frozen? ⟨g,3,none⟩=false:=Go.Lib.frozen_of_heap h1 3;have c1:w1.cell? ⟨g,1,none⟩=some (.slice an o.cz.length cn):=Vk
 have HNL:Hid (∀y,an=some y->y.block<w.heap.size):=ae (fun y hy=>by have e:=(ay.cell (p:=⟨g,1,none⟩) aB).trans JW;rw[c1]at e;simp only[qAQ,qAS,qBL]at e;exact zrf y (by rw[<-e.1];exact hy));have hlen:o.body.length<=o.body.length:=zNr;rcases hx with ⟨l,gl,hr,rfl,fC,BK⟩ | ⟨hr,rfl⟩
 ·have iF:Bs w1 (some (zp gl)) l.length l:=by
   have e:l=BG s s.size:=by
    unfold Mr at hr;split at hr
    ·injection hr with hr
     exact hr.symm
    ·cases hr
   have oA:∀j,j<s.size->0<=sV (hZ s j):=by
    unfold Mr at hr;split at hr
    ·rename_i h;exact h.2
    ·cases hr
   refine fC.bs ?_ ?_
   ·rw[e];exact Dv s s.size oA
   ·rw[e,Ab];omega
  have dL:=B7.setBody iF fC.lt Sg Sg (fun an' cn' Ub y hy e=>by rw[c1]at Ub;simp only[qAQ,qAS,qBL]at Ub;obtain⟨rfl,rfl⟩:=Ub;have:=HNL y hy;omega);have vQ:=((ay.mono hB).setCell (p:=⟨g,3,none⟩) mi (.slice (some (zp gl)) l.length l.length));have HS:=ae dL;have HB:=ae vQ;have HR:=ae hr;go_wp2;go_ret;rw[R8 HR];exact⟨HB,rfl,HS⟩
 ·have vQ:=((ay.mono hB).setCell (p:=⟨g,3,none⟩) mi (.slice none 0 0));have HB:=ae vQ;have HR:=ae hr;unfold Hq;go_wp2;go_ret;rw[Kb HR];exact⟨HB,rfl⟩
theorem za6(hw:sL w b)(s:BA)(hs:s.size<=3000)(h:Md w B g o)(hB:B<=w.heap.size)(hn:o.cz.length<=100):zC 86 #[zq g,.int .u8 78,.string s] w (TkP w B g b (tkO 78 s o)):=by
 obtain⟨i0,dU,cO,cU,cV⟩:=qAO jR;have HX:=ae (Es hw s hs);have HO:=ae (fun(W:World) (hW:zB w W)=>h.below hW);have mi:B<=g:=zj2
 clear hw h;obtain⟨v,x,hv,hvx⟩:∃v x,KJ s b=.tuple #[zi v,x]/\((rdN s=some v/\x=.nilIface)\/(rdN s=none/\x=Hq b)):=by
  unfold KJ;cases hq:rdN s with
  | some v=>exact⟨v,_,rfl,.inl ⟨rfl,rfl⟩⟩
  | none=>exact⟨0,_,rfl,.inr ⟨rfl,rfl⟩⟩
 rw[hv]at HX;clear hv;go_enter func86,ntmps86
 go_wp2_with fail
 refine HX.mono ?_;rintro e w1 ⟨rfl,ay⟩;obtain⟨an,cn,a,c,h1,h2,h3,h4,h5,h6⟩:=HO w1 ay;have c1:w1.cell? ⟨g,1,none⟩=some (.slice an o.cz.length cn):=Vk
 have aB:g<w1.heap.size:=(zAg h1).1;have eh:zB w1 (w1.alloc (.cells #[zi v] 3)):=zBr.alloc zNr _;have HG:Hid ((w1.alloc (.cells #[zi v] 3)).heap[g]?=some (.cells #[.string o.row,.slice an o.cz.length cn,.string o.name,.slice a o.body.length c] 112 (0,0))):=ae (by rw[eh.block g aB];exact h1);have HL:=ae (h2.below eh);have HBd:=ae (h3.below eh);have H45:=ae (And.intro h4 h5);have kq:Hid ((w1.alloc (.cells #[zi v] 3)).heap[w1.heap.size]?=some (.cells (jx v).toArray 3 (0,0))):=ae (qAB _ _);have rH:Below B w (w1.alloc (.cells #[zi v] 3)):=(ay.mono hB).trans (eh.mono (by have:=ay.size;omega));have qo:=ae rH;have bW:B<=(w1.alloc (.cells #[zi v] 3)).heap.size:=by have:=ay.size;have:=eh.size;omega
 clear HX HO h1 h2 h3 h4 h5 eh ay rH;go_wp2_with (at_builtin;refine yh rfl _ _ 88 rfl B i0 (zi 0) 8 underlying88 dU cO cU cV rfl Si Si _ _ rfl HL w1.heap.size v rfl kq rfl (lZ _) Sg bW ?_)
 intro v9 w9 AV ji Lt zkw;have hg9:w9.heap[g]?=some (.cells #[.string o.row,.slice an o.cz.length cn,.string o.name,.slice a o.body.length c] 112 (0,0)):=by rw[Lt g (by first | omega | (simp;omega)) (zI H45.1)];exact HG
 have d1:w9.cell? ⟨g,1,none⟩=some (.slice an o.cz.length cn):=by rw[Go.Lib.cell_of_heap hg9];rfl
 have f1:w9.frozen? ⟨g,1,none⟩=false:=Go.Lib.frozen_of_heap hg9 1;obtain⟨a9,c9,rfl,_⟩:=AV.uM jw Tb;have zkz:∀y,a9=some y->y.block≠g:=fun y hy e=>by
  subst hy;rcases zkw with h|h
  ·obtain⟨z,hz,hzk⟩:=Th h.symm;exact H45.1 z hz (by rw[hzk];exact e)
  ·simp[Value.ownBlock]at h;omega
 have ij:∀x,a=some x->∀y,a9=some y->y.block≠x.block:=fun x hx y hy e=>by
  subst hy;have h5:=H45.2 x hx;rcases zkw with h|h
  ·obtain⟨z,hz,hzk⟩:=Th h.symm;exact h5.2.2 z hz (by rw[hzk];exact e)
  ·simp[Value.ownBlock]at h;have:=h5.2.1.1;omega
 have Fh:Md (w9.setCell ⟨g,1,none⟩ (.slice a9 (o.cz++[v]).length c9)) B g { o with cz:=o.cz++[v]}:=by
  refine⟨a9,c9,a,c,heap_set hg9 _,AV.V7 (fun j hj=>iC (fun e=>zI zkz (by rw[hj,e])) _),?_,zkz,fun x hx=>⟨(H45.2 x hx).1,⟨?_,(H45.2 x hx).2.1.2⟩,ij x hx⟩,mi⟩
  ·refine HBd.V8 (fun x hx=>?_);have h5:=H45.2 x hx;rw[iC h5.1,Lt x.block (by have:=h5.2.1.1;first | omega | (simp;omega)) (zI (fun y hy=>h5.2.2 y hy))]
  ·have h5:=(H45.2 x hx).2.1.1;have:=ji.size;simp at this ⊢;have h9:=AV;omega
 have HOD:=ae Fh;have sO:=ae ((qo.trans ji).setCell (p:=⟨g,1,none⟩) mi (.slice a9 (o.cz++[v]).length c9));have jE:(o.cz++[v]).length=o.cz.length+1:=Sk
 rw[jE]at sO HOD;clear Fh jE AV ji Lt zkw hg9 zkz ij HG HL HBd H45 kq qo;rcases hvx with ⟨hr,rfl⟩|⟨hr,rfl⟩
 ·have HR:=ae hr;clear hr;go_wp2;go_ret;rw[R7 HR];exact⟨sO,rfl,HOD⟩
 ·have HR:=ae hr;clear hr;unfold Hq;go_wp2;go_ret;rw[Ka HR];exact⟨sO,rfl⟩
end
theorem Cc sep:∀ (k:Nat) (s x:BA),x∈Go.Lib.splitB sep 0 k s->x.size<=s.size
 | 0,s,x,h=>by rw[Go.Lib.splitB_zero]at h;rw[zMs h];exact zNr
 | k+1,s,x,h=>by
  unfold Go.Lib.splitB at h;split at h
  ·rw[zMs h];exact zNr
  ·rcases zMc h with rfl|h
   ·rw[ByteArray.size_extract];omega
   ·have:=Cc sep k _ x h;rw[ByteArray.size_extract]at this;omega
theorem y8 s:∀x∈jZ s,x.size<=s.size:=fun x hx=>Cc _ _ s x hx
theorem zfz s:(jZ s).length<=s.size+1:=by have:=Go.Lib.countB_le ⟨#[32]⟩ Si s.size s zNr;rw[wH];omega
def uN(r f:BA)(ws:List BA):Nat->Option Od
 | 0=>some ⟨r,[],⟨#[]⟩,[]⟩
 | i+1=>match uN r f ws i with | some o=>tkO ((f.data.toList.getD i 0).toNat) (ws.getD i ⟨#[]⟩) o | none=>none
theorem NU{r:BA}{ws}(h:uN r f ws i=none):∀ {k:Nat},i<=k->uN r f ws k=none:=by
 intro k;induction k with
 | zero =>intro hk;have e:=Nat.le_zero.1 hk;rw[<-e];exact h
 | succ k ih =>
  intro hk;by_cases e:i=k+1
  ·rw[<-e];exact h
  ·show(match uN r f ws k with | some o=>_ | none=>none)=none
   rw[ih Sg]
def rdO(s:BA):Option Od:=match qy ((jZ s).getD 0 ⟨#[]⟩)with | some f=>if (jZ s).length=f.size+1 then uN ((jZ s).getD 0 ⟨#[]⟩) f ((jZ s).drop 1) f.size else none | none=>none
theorem BV(h:qy s=some f):f.size<=3/\∀i (hi:i<f.size),f[i].toNat=78\/f[i].toNat=72\/f[i].toNat=65:=by
 unfold qy at h;by_cases h0:s=oN
 ·rw[zy h0]at h;exact j4
 rw[zn h0]at h;by_cases h1:s=jr
 ·rw[zy h1]at h;exact j4
 rw[zn h1]at h;by_cases h2:s=oP
 ·rw[zy h2]at h;exact j4
 rw[zn h2]at h;by_cases h3:s=fi
 ·rw[zy h3]at h;exact j4
 rw[zn h3]at h;by_cases h4:s=iZ
 ·rw[zy h4]at h;exact j4
 rw[zn h4]at h;by_cases h5:s=lN
 ·rw[zy h5]at h;exact j4
 rw[zn h5]at h;by_cases h6:s=fT
 ·rw[zy h6]at h;exact j4
 rw[zn h6]at h;by_cases h7:s=oO
 ·rw[zy h7]at h;exact j4
 rw[zn h7]at h;by_cases h8:s=dN
 ·rw[zy h8]at h;exact j4
 rw[zn h8]at h;by_cases h9:s=fV
 ·rw[zy h9]at h;exact j4
 rw[zn h9]at h;by_cases vR:s=fU
 ·rw[zy vR]at h;exact j4
 rw[zn vR]at h;by_cases BQ:s=e7
 ·rw[zy BQ]at h;exact j4
 rw[zn BQ]at h;by_cases Fs:s=ir
 ·rw[zy Fs]at h;exact j4
 rw[zn Fs]at h;by_cases Mx:s=e6
 ·rw[zy Mx]at h;exact j4
 rw[zn Mx]at h;by_cases PO:s=gZ
 ·rw[zy PO]at h;exact j4
 rw[zn PO]at h;cases h
theorem za9{o}(hw:sL w b) k(hk:k=78\/k=72\/k=65) s(hs:s.size<=3000)(h:Md w B g o)(hB:B<=w.heap.size)(hn:o.cz.length<=100):zC 86 #[zq g,.int .u8 k,.string s] w (TkP w B g b (tkO k s o)):=by
 rcases hk with rfl|rfl|rfl
 ·exact za6 hw s hs h hB hn
 ·exact za8 hw s hs h hB
 ·exact Xz s h
theorem zfH{k}{o o'}(h:tkO k s o=some o'):o'.cz.length<=o.cz.length+1:=by
 unfold tkO at h;by_cases h1:k=78
 ·rw[zy h1]at h;cases hq:rdN s with
  | none=>rw[hq]at h;cases h
  | some v =>
   rw[hq]at h
   injection h with h
   subst h;simp
 rw[zn h1]at h;by_cases h2:k=72
 ·rw[zy h2]at h;cases hq:Mr s with
  | none=>rw[hq]at h;cases h
  | some v =>
   rw[hq]at h
   injection h with h
   subst h;simp
 rw[zn h2]at h
 injection h with h
 subst h;simp
theorem Il:(prog.info? 9).map (·.size)=some 1:=SQ
theorem zfX g n(hn:1<=n) w:(Instr.slice 60 (.slice (zo g) n n) (some (zi 1)) none none).run prog w=.ok (.slice (some (if n=1 then (zp g)else (zw g 1))) (n-1) (n-1)) w:=by
 have bW:(sizeOf 9).run prog w=.ok 1 w:=by
  have bW:=Il;cases hq:prog.info? 9 with
  | none=>simp[hq]at bW
  | some i =>exact EP
 have he:prog.elem 60=9:=by simp[Program.elem,underlying60]
 have h:=qDT (P:=prog) (w:=w) 60 (zo g) n n (by rw[he];exact underlying60) .i64 (1:Nat) Sg Sg;rw[he,bW]at h;refine Eq.trans h ?_;simp[Result.andThen,sliced,Addr.add];by_cases h1:n=1
 ·simp[h1]
 ·simp[h1]
def OdB(w:World)(g:Nat)(x1 x2 x3 x4:Value):Prop:=w.heap[g]?=some (.cells #[x1,x2,x3,x4] 112 (0,0))
theorem OdB.tr{x1 x2 x3 x4}(h:OdB w g x1 x2 x3 x4) y1 y2 y3 y4:OdB ((((w.setCell (zp g) y1).setCell (zw g 1) y2).setCell (zw g 2) y3).setCell (zw g 3) y4) g y1 y2 y3 y4:=by have h1:=qAI w g 0 _ _ y1 h;have h2:=qAI _ g 1 _ _ y2 h1;have h3:=qAI _ g 2 _ _ y3 h2;exact qAI _ g 3 _ _ y4 h3
theorem zfY:(prog.info? 112).map (·.size)=some 4:=SQ
theorem tA{fn}{p q}(h:fn.results=#[.cell p 112,.tmp q]) tmps w g x1 x2 x3 x4(hp:tmps.getD p undef=zq g)(hg:OdB w g x1 x2 x3 x4) :
  (results fn tmps).run prog w=.ok (.tuple #[.agg #[x1,x2,x3,x4],tmps.getD q undef]) w:=by
 rw[results_cell_tmp h,hp];have:=run_loadVar_row (P:=prog) w g 112 112 _ (0,0) _ hg underlying112 rfl (by rw[zfY];rfl);exact zl5
theorem kk(hb:Below B w w')(hg:B<=g) y1 y2 y3 y4:Below B w ((((w'.setCell (zp g) y1).setCell (zw g 1) y2).setCell (zw g 2) y3).setCell (zw g 3) y4):=(((hb.setCell (p:=(zp g)) hg _).setCell (p:=⟨g,1,none⟩) hg _).setCell (p:=⟨g,2,none⟩) hg _).setCell (p:=⟨g,3,none⟩) hg _
def odV(o:Od)(an:OA)(cn:Nat)(a:OA)(c:Nat):Value:=.agg #[.string o.row,.slice an o.cz.length cn,.string o.name,.slice a o.body.length c]
def RdP(w:World)(b:Addr)(x:Option Od)(e:Ending)(w':World):Prop:=zB w w'/\((∃o an cn a c,x=some o/\e=zt #[odV o an cn a c,.nilIface]/\fF jx 1 w' an cn o.cz/\Bs w' a c o.body)\/(x=none/\e=.returned (.tuple #[.agg #[.string ⟨#[]⟩,.slice none 0 0,.string ⟨#[]⟩,.slice none 0 0],Hq b])))
theorem zb2(hw:sL w b) s(hs:s.size<=3000):zC 51 #[.string s] w (RdP w b (rdO s)):=by
 have gT:zB w (w.alloc (.cells #[.string ⟨#[]⟩,.slice none 0 0,.string ⟨#[]⟩,.slice none 0 0] 112)):=zBr.alloc zNr _;obtain⟨w0,hw0⟩:∃x,w.alloc (.cells #[.string ⟨#[]⟩,.slice none 0 0,.string ⟨#[]⟩,.slice none 0 0] 112)=x:=⟨_,rfl⟩;have HSP:=ae (XD (hw.below gT) s hs);have hf0:w0.frozen? ⟨w.heap.size,0,none⟩=false/\w0.heap[w.heap.size]?=some (.cells #[.string ⟨#[]⟩,.slice none 0 0,.string ⟨#[]⟩,.slice none 0 0] 112 (0,0)):=by rw[<-hw0];exact⟨Sk,qAB _ _⟩
 rw[hw0]at HSP gT;have aH:zB w0 (w0.alloc (.cells ((jZ s).map Value.string).toArray 9)):=zBr.alloc zNr _;have fM:(w0.alloc (.cells ((jZ s).map Value.string).toArray 9)).heap[w0.heap.size]?=some (.cells ((jZ s).map Value.string).toArray 9 (0,0)):=qAB _ _;obtain⟨w1,e1⟩:∃x,w0.alloc (.cells ((jZ s).map Value.string).toArray 9)=x:=⟨_,rfl⟩;rw[e1]at HSP aH fM;have ia:=gT.trans (aH.mono gT.size);have MG:=ae (fun(W:World) (hW:zB w1 W) (j:Nat) (x:BA) (hx:(jZ s)[j]?=some x)=>(show W.cell? ⟨w0.heap.size,j,none⟩=some (.string x)from aP (by rw[Go.Lib.cell_of_heap fM];simp[hx]) hW));have hlen:=wH s;have oz:0<(jZ s).length:=Sg
 have HR:Hid ((jZ s)[0]?=some ((jZ s).getD 0 ⟨#[]⟩)):=ae (by rw[qAC,zLg oz];rfl);have bW:∀x∈jZ s,x.size<=3000:=fun x hx=>qAF (y8 s x hx) hs
 obtain⟨r,hr⟩:∃x,(jZ s).getD 0 ⟨#[]⟩=x:=⟨_,rfl⟩;rw[hr]at HR;have c0:=MG w1 zBr 0 r HR;have HF:=ae (Un r b w1 ((hw.below ia).bd));have jl:rdO s=match qy r with | some f=>if (jZ s).length=f.size+1 then uN r f ((jZ s).drop 1) f.size else none | none=>none:=by unfold rdO;rw[hr]
 have ja:=ae jl;have aQ:=ae ia;have HW:=ae hw;have HF0:=ae hf0;have zrY:=aH.size;have zrZ:w.heap.size<w0.heap.size:=(zAg hf0.2).1;have MC:=ae hw0;have Gi:=ae (fun(W:World) (hW:zB w1 W)=>(show W.heap[w.heap.size]?=some (.cells #[.string ⟨#[]⟩,.slice none 0 0,.string ⟨#[]⟩,.slice none 0 0] 112 (0,0))from by have h0:w.heap.size<w0.heap.size:=(zAg hf0.2).1;rw[hW.block _ Sg,aH.block _ h0];exact hf0.2));clear hw0 fM gT aH ia hw hf0 hr jl e1;have jE:(jZ s).length<=3001:=by have:=zfz s;omega
 generalize hWS:jZ s=WS at*;have Rx:=ae bW;clear bW hWS hlen;go_enter func51,ntmps51
 go_wp2_with fail
 rw[aa MC];refine HSP.mono ?_;rintro e w' ⟨rfl,rfl⟩;clear HSP MC;go_wp2_with fail
 refine HF.mono ?_;rintro e w2 ⟨rfl,aK⟩;have dr:=zTs aQ aK;have yG:=Gi w2 aK;clear HF;cases hf:qy r with
 | none =>
  have ev:uE r b=.tuple #[.string ⟨#[]⟩,Hq b]:=by unfold uE;rw[hf]
  rw[ev];unfold Hq;have ho:rdO s=none:=by rw[aa ja,hf]
  have z0:w2.cell? ⟨w.heap.size,0,none⟩=some (.string ⟨#[]⟩):=zeA
  have z1:w2.cell? ⟨w.heap.size,1,none⟩=some (.slice none 0 0):=zeA
  have z2:w2.cell? ⟨w.heap.size,2,none⟩=some (.string ⟨#[]⟩):=zeA
  have z3:w2.cell? ⟨w.heap.size,3,none⟩=some (.slice none 0 0):=zeA
  have y0:=Go.Lib.frozen_of_heap yG 0;have y1:=Go.Lib.frozen_of_heap yG 1;have y2:=Go.Lib.frozen_of_heap yG 2;have y3:=Go.Lib.frozen_of_heap yG 3;have bz:=ae dr;have HO:=ae ho;have zrd:Hid (OdB w2 w.heap.size _ _ _ _):=ae yG;clear hf ev ho yG aK dr ja;go_wp2;refine qBV (tA results51 _ _ w.heap.size _ _ _ _ rfl (zrd.tr _ _ _ _)) rfl ?_;exact⟨kk bz zNr _ _ _ _,.inr ⟨HO,rfl⟩⟩
 | some f =>
  have ev:uE r b=.tuple #[.string f,.nilIface]:=by unfold uE;rw[hf]
  rw[ev];have ho:rdO s=if WS.length=f.size+1 then uN r f (WS.drop 1) f.size else none:=by rw[aa ja,hf]
  obtain⟨ZE,hfk⟩:=BV hf;obtain⟨ad,lE,had⟩:∃ad:Addr,(∀W:World,(Instr.slice 60 (.slice (some ⟨w0.heap.size,0,none⟩) WS.length WS.length) (some (zi 1)) none none).run prog W=.ok (.slice (some ad) (WS.length-1) (WS.length-1)) W)/\(1<WS.length->ad=⟨w0.heap.size,1,none⟩):=⟨_,fun W=>zfX w0.heap.size WS.length oz W,fun h=>zn Sg⟩;have HAD:=ae had;clear had;have PE:zB w2 (w2.alloc (.cells #[.string r,.slice none 0 0,.string ⟨#[]⟩,.slice none 0 0] 112)):=zBr.alloc zNr _;have Fh:Md (w2.alloc (.cells #[.string r,.slice none 0 0,.string ⟨#[]⟩,.slice none 0 0] 112)) w2.heap.size w2.heap.size ⟨r,[],⟨#[]⟩,[]⟩:=⟨none,0,none,0,qAB _ _,cX.nil _ _,eu _,(fun x hx=>TG),(fun x hx=>TG),zNr⟩;have mr:=dr.trans (PE.mono dr.size);have BN:=aK.trans (PE.mono aK.size);have c0b:=MG w2 aK 0 r HR;have CY:=Gi _ BN;obtain⟨w3,e3⟩:∃x,w2.alloc (.cells #[.string r,.slice none 0 0,.string ⟨#[]⟩,.slice none 0 0] 112)=x:=⟨_,rfl⟩;rw[e3]at Fh mr BN CY;have HW3:=ae e3;have HOD:=ae Fh;have dF:=ae mr;have zrq:=ae BN;have HFK:=ae hfk;have xF:=mr.size;have zrX:=BN.size;have hg3:w2.heap.size<w3.heap.size:=Fh.lt;have znp:=aK.size;by_cases hlq:WS.length=f.size+1
  ·rw[zy hlq]at ho;have HO:=ae ho;obtain⟨m,hm⟩:∃m,WS.length-1=m:=⟨_,rfl⟩;have zqg:(((m:Nat):Int) != (f.size:Int))=false:=bne_eq_false_iff_eq.2 Sg;have HM:Hid (m=f.size/\WS.length=m+1):=ae ⟨Sg,Sg⟩;rw[hm]at lE;have HHW:=ae (fun(W:World) (hW:Below w2.heap.size w3 W)=>HW.below (dr.trans (((PE.mono zNr).trans (show Below w2.heap.size (w2.alloc (.cells #[.string r,.slice none 0 0,.string ⟨#[]⟩,.slice none 0 0] 112)) W by rw[e3];exact hW)).mono dr.size)));have HCW:=ae (fun(W:World) (hW:Below w2.heap.size w3 W) (j:Nat) (x:BA) (hx:WS[j]?=some x)=>MG W (aK.trans (((PE.mono zNr).trans (show Below w2.heap.size (w2.alloc (.cells #[.string r,.slice none 0 0,.string ⟨#[]⟩,.slice none 0 0] 112)) W by rw[e3];exact hW)).mono znp)) j x hx);have HOW:=ae (fun(W:World) (hW:Below w2.heap.size w3 W)=>Gi W (aK.trans (((PE.mono zNr).trans (show Below w2.heap.size (w2.alloc (.cells #[.string r,.slice none 0 0,.string ⟨#[]⟩,.slice none 0 0] 112)) W by rw[e3];exact hW)).mono znp)));have qo:=ae (fun(W:World) (hW:Below w2.heap.size w3 W)=>(dr.trans (((PE.mono zNr).trans (show Below w2.heap.size (w2.alloc (.cells #[.string r,.slice none 0 0,.string ⟨#[]⟩,.slice none 0 0] 112)) W by rw[e3];exact hW)).mono dr.size)));have zrP:=dr.size;clear hf ev ho yG aK dr ja Fh PE mr BN hfk e3 CY hlq hm zrq dF HF0 aQ;go_wp2_with fail
   rw[aa HW3];clear HW3;go_wp2_with fail
   go_loopw [8,9,10,39] (fun _ _ _ iv wr=>∃ (i:Nat) (o:Od),i<=m/\iv=zi i/\uN r f (WS.drop 1) i=some o/\Md wr w2.heap.size w2.heap.size o/\o.cz.length<=i/\Below w2.heap.size w3 wr) (fun _ _ _ iv _=>m-(intOf iv).toNat)
   case atStart=>exact⟨0,_,qAH _,rfl,rfl,HOD,zNr,zBr⟩
   case round =>
    obtain⟨i,o,hi,rfl,hk,Fh,hnn,ai⟩:=hrel;clear HOD;by_cases aB:i<m
    ·obtain⟨BJ,kz⟩:=HM;have zqE:=HAD Sg;subst zqE;obtain⟨x,hx⟩:∃x,WS[i+1]?=some x:=⟨_,zLg Sg⟩;have kS:=HCW wr ai (i+1) x hx;rw[Nat.add_comm i 1]at kS;have Rp:i<f.size:=by omega
     have hks:=HFK i Rp;have Rh:=Rx x (qAs hx);have x8:=ae (za9 (HHW wr ai) (f[i].toNat:Int) Sg x Rh Fh (by have:=Fh.lt;omega) Sg);have hrk:uN r f (WS.drop 1) (i+1)=tkO (f[i].toNat:Int) x o:=by
      show(match uN r f (WS.drop 1) i with | some o=>tkO ((f.data.toList.getD i 0).toNat) ((WS.drop 1).getD i ⟨#[]⟩) o | none=>none)=_
      rw[hk];have e1:f.data.toList.getD i 0=f[i]:=by rw[qAC,qCV,qBX Rp];rfl
      have e2:(WS.drop 1).getD i ⟨#[]⟩=x:=by rw[qAC,qBJ,Nat.add_comm 1 i,hx];rfl
      dsimp only;rw[e1,e2]
     have Gw:∀o',tkO (f[i].toNat:Int) x o=some o'->o'.cz.length<=i+1:=fun o' h=>by have:=zfH h;omega
     have HRK:=ae hrk;have W6:=ae Gw;have pQ:=ae ai;have HHX:=ae (And.intro BJ kz);clear hk Fh hks Rh hrk Gw ai hx BJ kz;cases ht:tkO (f[i].toNat:Int) x o with
     | some o' =>
      rw[ht]at x8 HRK;have hn':=W6 o' ht;clear ht W6;go_wp2_with fail
      refine x8.mono ?_;rintro e w5 ⟨il,rfl,znC⟩;have HX5:=ae (And.intro znC (pQ.trans il));clear il znC x8 pQ;go_wp2;go_roundw
      case rel=>exact⟨i+1,o',Sg,Tc,HRK,HX5.1,hn',HX5.2⟩
      case measure=>exact Te
     | none =>
      rw[ht]at x8 HRK;clear ht W6;have Mi:Hid (rdO s=none):=ae (by rw[aa HO];exact NU HRK (by have:=aa HHX;omega));go_wp2_with fail
      refine x8.mono ?_;rintro e w5 ⟨il,rfl⟩;have LF:=pQ.trans il;have G8:=HOW w5 LF;have z0:w5.cell? ⟨w.heap.size,0,none⟩=some (.string ⟨#[]⟩):=WZ
      have z1:w5.cell? ⟨w.heap.size,1,none⟩=some (.slice none 0 0):=WZ
      have z2:w5.cell? ⟨w.heap.size,2,none⟩=some (.string ⟨#[]⟩):=WZ
      have z3:w5.cell? ⟨w.heap.size,3,none⟩=some (.slice none 0 0):=WZ
      have y0:=Go.Lib.frozen_of_heap G8 0;have y1:=Go.Lib.frozen_of_heap G8 1;have y2:=Go.Lib.frozen_of_heap G8 2;have y3:=Go.Lib.frozen_of_heap G8 3;have HOC:Hid (OdB w5 w.heap.size _ _ _ _):=ae G8;have sO:=ae (qo w5 LF);clear il LF G8 x8 pQ;unfold Hq;go_wp2;refine qBV (tA results51 _ _ w.heap.size _ _ _ _ rfl (HOC.tr _ _ _ _)) rfl ?_;exact⟨kk sO zNr _ _ _ _,.inr ⟨Mi,rfl⟩⟩
    ·obtain rfl:i=m:=by omega
     have HYE:Hid (rdO s=some o):=ae (by rw[aa HO,<-HM.1];exact hk);have G8:=HOW wr ai;have z0:wr.cell? ⟨w.heap.size,0,none⟩=some (.string ⟨#[]⟩):=WZ
     have z1:wr.cell? ⟨w.heap.size,1,none⟩=some (.slice none 0 0):=WZ
     have z2:wr.cell? ⟨w.heap.size,2,none⟩=some (.string ⟨#[]⟩):=WZ
     have z3:wr.cell? ⟨w.heap.size,3,none⟩=some (.slice none 0 0):=WZ
     have y0:=Go.Lib.frozen_of_heap G8 0;have y1:=Go.Lib.frozen_of_heap G8 1;have y2:=Go.Lib.frozen_of_heap G8 2;have y3:=Go.Lib.frozen_of_heap G8 3;have HOC:Hid (OdB wr w.heap.size _ _ _ _):=ae G8;have sO:=ae (qo wr ai);obtain⟨an,cn,a,c,h1,h2,h3,h4,h5,h6⟩:=Fh;have q0:wr.cell? ⟨w2.heap.size,0,none⟩=some (.string o.row):=Vk
     have q1:wr.cell? ⟨w2.heap.size,1,none⟩=some (.slice an o.cz.length cn):=Vk
     have q2:wr.cell? ⟨w2.heap.size,2,none⟩=some (.string o.name):=Vk
     have q3:wr.cell? ⟨w2.heap.size,3,none⟩=some (.slice a o.body.length c):=Vk
     have ZD:w.heap.size<w2.heap.size:=Sg
     have QZ:=ae (fun(W:World) (hW:∀k,k≠w.heap.size->W.heap[k]?=wr.heap[k]?)=>And.intro (h2.V7 (w':=W) (fun j hj=>hW j (by have:=h2.block j hj;omega))) (h3.V8 (w':=W) (fun x hx=>hW _ (by have:=(h5 x hx).2.1.2;omega))));clear hk ai G8 h1 h2 h3 h4 h5;go_wp2;refine qBV (tA results51 _ _ w.heap.size _ _ _ _ rfl (HOC.tr _ _ _ _)) rfl ?_;obtain⟨l1,l2⟩:=QZ ((((wr.setCell ⟨w.heap.size,0,none⟩ (.string o.row)).setCell ⟨w.heap.size,1,none⟩ (.slice an o.cz.length cn)).setCell ⟨w.heap.size,2,none⟩ (.string o.name)).setCell ⟨w.heap.size,3,none⟩ (.slice a o.body.length c)) (fun k hk=>by rw[iC hk,iC hk,iC hk,iC hk]);obtain⟨an',cn',e',TU⟩:=l1.uM jw (by have:=aa HM;omega);simp only[qAS,qBL]at e';obtain⟨rfl,rfl⟩:=e';exact⟨kk sO zNr _ _ _ _,.inl ⟨o,an,cn,a,c,HYE,rfl,TU,l2⟩⟩
  ·rw[zn hlq]at ho;have HO:=ae ho;have zqg:(((WS.length-1:Nat):Int) != (f.size:Int))=true:=qBZ.2 Sg;have iT:=(HW.below mr).bd;unfold Q7 at iT;have z0:w3.cell? ⟨w.heap.size,0,none⟩=some (.string ⟨#[]⟩):=by rw[Go.Lib.cell_of_heap CY];rfl
   have z1:w3.cell? ⟨w.heap.size,1,none⟩=some (.slice none 0 0):=zl2
   have z2:w3.cell? ⟨w.heap.size,2,none⟩=some (.string ⟨#[]⟩):=zl2
   have z3:w3.cell? ⟨w.heap.size,3,none⟩=some (.slice none 0 0):=zl2
   have y0:=Go.Lib.frozen_of_heap CY 0;have y1:=Go.Lib.frozen_of_heap CY 1;have y2:=Go.Lib.frozen_of_heap CY 2;have y3:=Go.Lib.frozen_of_heap CY 3;have zrc:Hid (OdB w3 w.heap.size _ _ _ _):=ae CY;have zdu:0<w.heap.size:=by have:=qAA HW.bd;exact this
   have zsw:(w3.setCell ⟨w.heap.size,0,none⟩ (.string ⟨#[]⟩)).cell? (zp 0)=some (.iface 424 (.pointer (some b))):=by rw[qAJ (iC (Nat.ne_of_lt zdu) _)];exact iT
   clear hf ev ho yG aK dr ja Fh PE mr BN hfk e3 CY;go_wp2_with fail
   rw[aa HW3];go_wp2_with fail
   go_region
   all_goals
    go_wp2;refine qBV (tA results51 _ _ w.heap.size _ _ _ _ rfl (OdB.tr (w:=w3) zrc _ _ _ _)) rfl ?_
    first
    | exact⟨kk dF zNr _ _ _ _,.inr ⟨HO,rfl⟩⟩
    | exact⟨below_drewN (kk dF zNr _ _ _ _) 1,.inr ⟨HO,rfl⟩⟩
    | exact⟨kk (below_drewN dF 1) zNr _ _ _ _,.inr ⟨HO,rfl⟩⟩
