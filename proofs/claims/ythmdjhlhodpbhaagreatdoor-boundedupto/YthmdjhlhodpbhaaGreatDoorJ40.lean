/- Bounded, 40 -/
import Derived.BigRegion
import Derived.Deep.RegionHeld3
import Derived.Deep.CutRange
import Derived.Deep.CutBlock
import Derived.Deep.LoopGhost
import Derived.BigQuiet
import Derived.StillTailTactics
import Derived.Test.YthmdjhlhodpbhaaGreatDoorJ38
set_option maxHeartbeats 16000000
set_option maxRecDepth 8000
namespace Go.Proofs.YthmdjhlhodpbhaaGreatDoor
open Go.RowKit
theorem bds_s [LoM] {c0 c2 c3 c5 c8 c33 c34 c35 c36 c37 c38 c39 c40 c41 c42 c43 c44 c45 c46 c47 c48 c49 c50:Value}{ga:Option Addr}{gcap:Nat}{w wn:World}{cb ab eb pb sb:Nat}{G:Cfg}{n k:Nat}{now':Int}{an hb:Nat}{addr tick cid str:Int}{ba:Option Addr}{bl bc:Nat}{bs:List Int}{came went:Nat->Int}{pv:Nat->Bool}{N1:Nat}{M1 L1:Int}{la2:Option Addr}{ln2 lc2:Nat}{s2:ay}{x:List (Int×List Int)}{bo:Nat}{tb:Nat}{ta:Option Addr}{tn tc:Nat}{f r:Bool}{v4 v16 v19 v20 v21 v22 v23 v24 v25 v26 v27 v28 v29 v30 v31 v32 v51 v52 v53 v54 v55 v56 v57 v58 v59 v60 v61 v62 v63 v64 v65 v66 v67 v68 v69 v70 v71 v72 v73 v74 v75 v76 v77 v78 v79 v80 v81 v82 v83 v84 v85 v86 v87 v88 v89 v90 v91 v92 v93 v94 v95 v96 v97 v98 v99 v100 v101 v102 v103 v104 v105 v106 v107 v108 v109 v110 v111 v112 v113 v114 v115 v116 v117 v118 v119 v120 v121 v122 v123 v124 v125 v126 v127 v128 v129 v130 v131 v132 v133 v134 v135 v136 v137 v138 v139 v140 v141 v142 v143 v144 v145 v146 v147 v148 v149 v150 v151 v152 v153 v154 v155 v156 v157 v158 v159 v160 v161 v162 v163 v164 v165 v166 v167 v168 v169 v170 v171 v172 v173 v174 v175 v176 v177 v178 v179 v180 v181 v182 v183 v184 v185 v186 v187 v188 v189 v190 v191 v192 v193 v194 v195 v196 v197 v198 v199 v200 v201 v202 v203 v204 v205 v206 v207 v208 v209 v210 v211 v212 v213 v214 v215 v216 v217 v218 v219 v220 v221 v222 v223 v224 v225 v226 v227 v228 v229 v230 v231 v232 v233 v234 v235 v236 v237 v238 v239 v240 v241 v242 v243 v244 v245 v246 v247 v248 v249 v250 v251 v252 v253 v254 v255 v256 v257 v258 v259 v260 v261 v262 v263 v264 v265 v266 v267 v268 v269 v270 v271 v272 v273 v274 v275 v276 v277 v278 v279 v280 v281 v282 v283 v284 v285 v286 v287 v288 v289 v290 v291 v292 v293 v294 v295 v296 v297 v298 v299 v300:Value}{Q:Exit->Act->World->Prop}{T:Code}
  (hT:∀(u4 u16 u19 u20 u21 u22 u23 u24 u26 u27 u28 u29 u30 u31 u32 u51 u52 u53 u54 u55 u56 u57 u58 u59 u60 u61 u62 u63 u64 u65 u66 u67 u68 u69 u70 u71 u72 u73 u74 u75 u76 u77 u78 u79 u80 u81 u82 u83 u84 u85 u86 u87 u88 u89 u90 u91 u92 u93 u94 u95 u96 u97 u98 u99 u100 u101 u102 u103 u104 u105 u106 u107 u108 u109 u110 u111 u112 u113 u114 u115 u116 u117 u118 u119 u120 u121 u122 u123 u124 u125 u126 u127 u128 u129 u130 u131 u132 u133 u134 u135 u136 u137 u138 u139 u140 u141 u142 u143 u144 u145 u146 u147 u148 u149 u150 u151 u152 u153 u154 u155 u156 u157 u158 u159 u160 u161 u162 u163 u164 u165 u166 u167 u168 u169 u170 u171 u172 u173 u174 u175 u176 u177 u178 u179 u180 u181 u182 u183 u184 u185 u186 u187 u188 u189 u190 u191 u192 u193 u194 u195 u196 u197 u198 u199 u200 u201 u202 u203 u204 u205 u206 u207 u208 u209 u210 u211 u212 u213 u214 u215 u216 u217 u218 u219 u220 u221 u222 u223 u224 u225 u226 u227 u228 u229 u230 u231 u232 u233 u234 u235 u236 u237 u238 u239 u240 u241 u242 u243 u244 u245 u246 u247 u248 u249 u250 u251 u252 u253 u254 u255 u256 u257 u258 u259 u260 u261 u262 u263 u264 u265 u266 u267 u268 u269 u270 u271 u272 u273 u274 u275 u276 u277 u278 u279 u280 u281 u282 u283 u284 u285 u286 u287 u288 u289 u290 u291 u292 u293 u294 u295 u296 u297 u298 u299 u300:Value) (cn:Nat) (wz:World),cn<=64->Hid (cn=gf s2 64)->Hid (BdS ⟨w,wn,cb,ab,eb,pb,sb,G⟩ N1 M1 L1 now' an bs came went went pv hb addr tick cid str (.slice ba bl bc) (.slice la2 ln2 lc2) s2 x bo wz)->Hid (wz.heap[tb]? =some (.cells #[.slice ta tn tc,.bool f,.bool r] 46 (0,0)))->Code.wp Tryz.prog T Q ⟨(c0::.slice ga n gcap::c2::c3::u4::c5::.pointer (some ⟨cb,0,none⟩)::.pointer (some ⟨sb,0,none⟩)::c8::.pointer (some ⟨ab,0,none⟩)::.pointer (some ⟨eb,0,none⟩)::.pointer (some ⟨pb,0,none⟩)::.int .i64 now'::.int .i64 (k:Int)::.pointer (some ⟨hb,0,none⟩)::.int .i64 (an:Int)::u16::.slice la2 ln2 lc2::.pointer (some ⟨tb,0,none⟩)::u19::u20::u21::u22::u23::u24::.int .i64 (cn:Int)::u26::u27::u28::u29::u30::u31::u32::c33::c34::c35::c36::c37::c38::c39::c40::c41::c42::c43::c44::c45::c46::c47::c48::c49::c50::u51::u52::u53::u54::u55::u56::u57::u58::u59::u60::u61::u62::u63::u64::u65::u66::u67::u68::u69::u70::u71::u72::u73::u74::u75::u76::u77::u78::u79::u80::u81::u82::u83::u84::u85::u86::u87::u88::u89::u90::u91::u92::u93::u94::u95::u96::u97::u98::u99::u100::u101::u102::u103::u104::u105::u106::u107::u108::u109::u110::u111::u112::u113::u114::u115::u116::u117::u118::u119::u120::u121::u122::u123::u124::u125::u126::u127::u128::u129::u130::u131::u132::u133::u134::u135::u136::u137::u138::u139::u140::u141::u142::u143::u144::u145::u146::u147::u148::u149::u150::u151::u152::u153::u154::u155::u156::u157::u158::u159::u160::u161::u162::u163::u164::u165::u166::u167::u168::u169::u170::u171::u172::u173::u174::u175::u176::u177::u178::u179::u180::u181::u182::u183::u184::u185::u186::u187::u188::u189::u190::u191::u192::u193::u194::u195::u196::u197::u198::u199::u200::u201::u202::u203::u204::u205::u206::u207::u208::u209::u210::u211::u212::u213::u214::u215::u216::u217::u218::u219::u220::u221::u222::u223::u224::u225::u226::u227::u228::u229::u230::u231::u232::u233::u234::u235::u236::u237::u238::u239::u240::u241::u242::u243::u244::u245::u246::u247::u248::u249::u250::u251::u252::u253::u254::u255::u256::u257::u258::u259::u260::u261::u262::u263::u264::u265::u266::u267::u268::u269::u270::u271::u272::u273::u274::u275::u276::u277::u278::u279::u280::u281::u282::u283::u284::u285::u286::u287::u288::u289::u290::u291::u292::u293::u294::u295::u296::u297::u298::u299::u300::[]).toArray,[]⟩ wz)
  {wr:World} (HNM:Hid (N1<=1100000*(k+1)/\M1<=1100000*((k+1:Nat):Int)/\L1<=2*((k+1:Nat):Int)/\M1<=1125899906842624)) (HS2:Hid (BdS ⟨w,wn,cb,ab,eb,pb,sb,G⟩ N1 M1 L1 now' an bs came went went pv hb addr tick cid str (.slice ba bl bc) (.slice la2 ln2 lc2) s2 x bo wr)) (HGt2:Hid (wr.heap[tb]? =some (.cells #[.slice ta tn tc,.bool f,.bool r] 46 (0,0)))):
  Code.wp Tryz.prog (cutAt 2 (spine 9 (dW Tryz.f9)) T) Q ⟨(c0::.slice ga n gcap::c2::c3::v4::c5::.pointer (some ⟨cb,0,none⟩)::.pointer (some ⟨sb,0,none⟩)::c8::.pointer (some ⟨ab,0,none⟩)::.pointer (some ⟨eb,0,none⟩)::.pointer (some ⟨pb,0,none⟩)::.int .i64 now'::.int .i64 (k:Int)::.pointer (some ⟨hb,0,none⟩)::.int .i64 (an:Int)::v16::.slice la2 ln2 lc2::.pointer (some ⟨tb,0,none⟩)::v19::v20::v21::v22::v23::v24::v25::v26::v27::v28::v29::v30::v31::v32::c33::c34::c35::c36::c37::c38::c39::c40::c41::c42::c43::c44::c45::c46::c47::c48::c49::c50::v51::v52::v53::v54::v55::v56::v57::v58::v59::v60::v61::v62::v63::v64::v65::v66::v67::v68::v69::v70::v71::v72::v73::v74::v75::v76::v77::v78::v79::v80::v81::v82::v83::v84::v85::v86::v87::v88::v89::v90::v91::v92::v93::v94::v95::v96::v97::v98::v99::v100::v101::v102::v103::v104::v105::v106::v107::v108::v109::v110::v111::v112::v113::v114::v115::v116::v117::v118::v119::v120::v121::v122::v123::v124::v125::v126::v127::v128::v129::v130::v131::v132::v133::v134::v135::v136::v137::v138::v139::v140::v141::v142::v143::v144::v145::v146::v147::v148::v149::v150::v151::v152::v153::v154::v155::v156::v157::v158::v159::v160::v161::v162::v163::v164::v165::v166::v167::v168::v169::v170::v171::v172::v173::v174::v175::v176::v177::v178::v179::v180::v181::v182::v183::v184::v185::v186::v187::v188::v189::v190::v191::v192::v193::v194::v195::v196::v197::v198::v199::v200::v201::v202::v203::v204::v205::v206::v207::v208::v209::v210::v211::v212::v213::v214::v215::v216::v217::v218::v219::v220::v221::v222::v223::v224::v225::v226::v227::v228::v229::v230::v231::v232::v233::v234::v235::v236::v237::v238::v239::v240::v241::v242::v243::v244::v245::v246::v247::v248::v249::v250::v251::v252::v253::v254::v255::v256::v257::v258::v259::v260::v261::v262::v263::v264::v265::v266::v267::v268::v269::v270::v271::v272::v273::v274::v275::v276::v277::v278::v279::v280::v281::v282::v283::v284::v285::v286::v287::v288::v289::v290::v291::v292::v293::v294::v295::v296::v297::v298::v299::v300::[]).toArray,[]⟩ wr:=by
 show Code.wp Tryz.prog (Code.seq _ (Code.seq _ T)) Q _ _
 have HT:=ae hT
 clear hT
 go_wp2_with fail
 go_loopg [25,26] 64 (fun gk cv iv wr=>∃q cn:Nat,cv=.int .i64 cn/\iv=.int .i64 q/\q<=64/\gk=64-q/\cn<=q/\Hid (cn=gf s2 q)/\Hid (BdS ⟨w,wn,cb,ab,eb,pb,sb,G⟩ N1 M1 L1 now' an bs came went went pv hb addr tick cid str (.slice ba bl bc) (.slice la2 ln2 lc2) s2 x bo wr)/\Hid (wr.heap[tb]? =some (.cells #[.slice ta tn tc,.bool f,.bool r] 46 (0,0))))
 case atStart=>exact⟨0,0,rfl,rfl,by omega,rfl,by omega,rfl,HS2,HGt2⟩
 case round=>
  obtain⟨q,cn,rfl,rfl,hq,rfl,hcnq,HCn,HSr,HGr⟩:=hrel
  clear HS2 HGt2
  obtain⟨wq,hwq⟩:∃wq,wq=wr:=⟨_,rfl⟩
  subst hwq
  by_cases hql:q<64
  ·have hql':(q:Int)<64:=by omega
   have HLo:Hid (Calls Tryz.prog 16 #[.pointer (some ⟨sb,0,none⟩),.int .i64 (q:Int)] wq fun e w'=>∃(z:Bool) (l1 l2 l3 l4 l5 fz:Int),e=.returned (.tuple #[.agg #[.bool z,.int .i64 l1,.int .i64 l2,.int .i64 l3,.int .i64 l4,.int .i64 l5],.int .i64 fz])/\Hid (BdS ⟨w,wn,cb,ab,eb,pb,sb,G⟩ N1 M1 L1 now' an bs came went went pv hb addr tick cid str (.slice ba bl bc) (.slice la2 ln2 lc2) s2 x bo (w'.alloc (.cells #[.bool z,.int .i64 l1,.int .i64 l2,.int .i64 l3,.int .i64 l4,.int .i64 l5] 34)))/\Hid ((w'.alloc (.cells #[.bool z,.int .i64 l1,.int .i64 l2,.int .i64 l3,.int .i64 l4,.int .i64 l5] 34)).heap[tb]? =some (.cells #[.slice ta tn tc,.bool f,.bool r] 46 (0,0)))/\((w'.alloc (.cells #[.bool z,.int .i64 l1,.int .i64 l2,.int .i64 l3,.int .i64 l4,.int .i64 l5] 34)).cell? ⟨cb,1,none⟩= some (.int .i64 G.c1)/\(w'.alloc (.cells #[.bool z,.int .i64 l1,.int .i64 l2,.int .i64 l3,.int .i64 l4,.int .i64 l5] 34)).cell? ⟨cb,3,none⟩= some (.int .i64 G.c3))/\Hid (fz=3/\gf s2 (q+1)=cn\/fz=0/\gf s2 (q+1)=cn+1/\(0<=l5/\l5<=G.c1)/\(z=false->l2<=3*l1)/\G.c3<=l4/\G.c1<=l3/\(0<=l1/\l1<=1125899906842624))):=by
    refine(bd_look HSr.out HNM.out.2.2.2 q (by omega)).mono ?_
    rintro e w' ⟨z,l1,l2,l3,l4,l5,fz,rfl,hb',h⟩
    have hb2:=ai hb'.out (ag w' (.cells #[.bool z,.int .i64 l1,.int .i64 l2,.int .i64 l3,.int .i64 l4,.int .i64 l5] 34))
    have hS3:=HSr.out.below hb2
    rw[<-HCn.out]at h
    exact⟨z,l1,l2,l3,l4,l5,fz,rfl,hS3,dq HGr.out hb2,⟨ax hS3.bd.cfgB 1,ax hS3.bd.cfgB 3⟩,h⟩
   clear HSr HGr
   go_wp2_with fail
   refine HLo.out.mono ?_
   rintro e wl ⟨z,l1,l2,l3,l4,l5,fz,rfl,HSl,HGl,⟨e1,e3⟩,H⟩
   clear HLo
   rcases H.out with⟨rfl,hc⟩|⟨rfl,hc,⟨hb0,hb1⟩,hz,hl4,hl3,hg0,hg1⟩
   ·have HC:=ae hc
    clear hc H
    go_wp2_with fail
    go_roundg (64-(q+1))
    case measure=>omega
    case rel=>exact⟨q+1,cn,rfl,by go_num,by omega,rfl,by omega,HC.out.symm,HSl,HGl⟩
   ·have HC:=ae hc
    have m1:¬G.c1<l5:=by omega
    have m2:¬l5<0:=by omega
    have m3:¬l4<G.c3:=by omega
    have m4:¬l3<G.c1:=by omega
    clear H hc
    cases z with
    |true=>
     clear hz
     go_wp2_with fail
     go_roundg (64-(q+1))
     case measure=>omega
     case rel=>exact⟨q+1,cn+1,by go_num,by go_num,by omega,rfl,by omega,HC.out.symm,HSl,HGl⟩
    |false=>
     have m5:¬3*l1<l2:=by have:=hz rfl;omega
     clear hz
     go_wp2_with fail
     go_roundg (64-(q+1))
     case measure=>omega
     case rel=>exact⟨q+1,cn+1,by go_num,by go_num,by omega,rfl,by omega,HC.out.symm,HSl,HGl⟩
  ·have hql':¬(q:Int)<64:=by omega
   have HQ:Hid (cn=gf s2 64):=by
    have h:=HCn.out
    rw[show q=64 by omega]at h
    exact h
   go_wp2_with fail
   exact HT.out _ _ _ _ _ _ _ _ _ _ _ _ _ _ _ _ _ _ _ _ _ _ _ _ _ _ _ _ _ _ _ _ _ _ _ _ _ _ _ _ _ _ _ _ _ _ _ _ _ _ _ _ _ _ _ _ _ _ _ _ _ _ _ _ _ _ _ _ _ _ _ _ _ _ _ _ _ _ _ _ _ _ _ _ _ _ _ _ _ _ _ _ _ _ _ _ _ _ _ _ _ _ _ _ _ _ _ _ _ _ _ _ _ _ _ _ _ _ _ _ _ _ _ _ _ _ _ _ _ _ _ _ _ _ _ _ _ _ _ _ _ _ _ _ _ _ _ _ _ _ _ _ _ _ _ _ _ _ _ _ _ _ _ _ _ _ _ _ _ _ _ _ _ _ _ _ _ _ _ _ _ _ _ _ _ _ _ _ _ _ _ _ _ _ _ _ _ _ _ _ _ _ _ _ _ _ _ _ _ _ _ _ _ _ _ _ _ _ _ _ _ _ _ _ _ _ _ _ _ _ _ _ _ _ _ _ _ _ _ _ _ _ _ _ _ _ _ _ _ _ _ _ _ _ _ _ _ _ _ _ _ _ _ _ _ _ _ (by omega) HQ HSr HGr
theorem bds_f [LoM] {c0 c2 c3 c5 c8 c33 c34 c35 c36 c37 c38 c39 c40 c41 c42 c43 c44 c45 c46 c47 c48 c49 c50:Value}{ga:Option Addr}{gcap:Nat}{w wn:World}{cb ab eb pb sb:Nat}{G:Cfg}{n k:Nat}{now':Int}{an hb:Nat}{addr tick cid str:Int}{ba:Option Addr}{bl bc:Nat}{bs:List Int}{came went:Nat->Int}{pv:Nat->Bool}{N1:Nat}{M1 L1:Int}{la2:Option Addr}{ln2 lc2:Nat}{s2:ay}{x:List (Int×List Int)}{bo:Nat}{tb:Nat}{ta:Option Addr}{tn tc:Nat}{f r:Bool}{cn:Nat}{v4 v16 v19 v20 v21 v22 v23 v24 v26 v27 v28 v29 v30 v31 v32 v51 v52 v53 v54 v55 v56 v57 v58 v59 v60 v61 v62 v63 v64 v65 v66 v67 v68 v69 v70 v71 v72 v73 v74 v75 v76 v77 v78 v79 v80 v81 v82 v83 v84 v85 v86 v87 v88 v89 v90 v91 v92 v93 v94 v95 v96 v97 v98 v99 v100 v101 v102 v103 v104 v105 v106 v107 v108 v109 v110 v111 v112 v113 v114 v115 v116 v117 v118 v119 v120 v121 v122 v123 v124 v125 v126 v127 v128 v129 v130 v131 v132 v133 v134 v135 v136 v137 v138 v139 v140 v141 v142 v143 v144 v145 v146 v147 v148 v149 v150 v151 v152 v153 v154 v155 v156 v157 v158 v159 v160 v161 v162 v163 v164 v165 v166 v167 v168 v169 v170 v171 v172 v173 v174 v175 v176 v177 v178 v179 v180 v181 v182 v183 v184 v185 v186 v187 v188 v189 v190 v191 v192 v193 v194 v195 v196 v197 v198 v199 v200 v201 v202 v203 v204 v205 v206 v207 v208 v209 v210 v211 v212 v213 v214 v215 v216 v217 v218 v219 v220 v221 v222 v223 v224 v225 v226 v227 v228 v229 v230 v231 v232 v233 v234 v235 v236 v237 v238 v239 v240 v241 v242 v243 v244 v245 v246 v247 v248 v249 v250 v251 v252 v253 v254 v255 v256 v257 v258 v259 v260 v261 v262 v263 v264 v265 v266 v267 v268 v269 v270 v271 v272 v273 v274 v275 v276 v277 v278 v279 v280 v281 v282 v283 v284 v285 v286 v287 v288 v289 v290 v291 v292 v293 v294 v295 v296 v297 v298 v299 v300:Value}{Q:Exit->Act->World->Prop}{T:Code}
  (hT:∀(u4 u16 u18 u19 u20 u21 u22 u23 u24 u25 u26 u27 u28 u29 u30 u31 u32 u51 u52 u53 u54 u55 u56 u57 u58 u59 u60 u61 u62 u63 u64 u65 u66 u67 u68 u69 u70 u71 u72 u73 u74 u75 u76 u77 u78 u79 u80 u81 u82 u83 u84 u85 u86 u87 u88 u89 u90 u91 u92 u93 u94 u95 u96 u97 u98 u99 u100 u101 u102 u103 u104 u105 u106 u107 u108 u109 u110 u111 u112 u113 u114 u115 u116 u117 u118 u119 u120 u121 u122 u123 u124 u125 u126 u127 u128 u129 u130 u131 u132 u133 u134 u135 u136 u137 u138 u139 u140 u141 u142 u143 u144 u145 u146 u147 u148 u149 u150 u151 u152 u153 u154 u155 u156 u157 u158 u159 u160 u161 u162 u163 u164 u165 u166 u167 u168 u169 u170 u171 u172 u173 u174 u175 u176 u177 u178 u179 u180 u181 u182 u183 u184 u185 u186 u187 u188 u189 u190 u191 u192 u193 u194 u195 u196 u197 u198 u199 u200 u201 u202 u203 u204 u205 u206 u207 u208 u209 u210 u211 u212 u213 u214 u215 u216 u217 u218 u219 u220 u221 u222 u223 u224 u225 u226 u227 u228 u229 u230 u231 u232 u233 u234 u235 u236 u237 u238 u239 u240 u241 u242 u243 u244 u245 u246 u247 u248 u249 u250 u251 u252 u253 u254 u255 u256 u257 u258 u259 u260 u261 u262 u263 u264 u265 u266 u267 u268 u269 u270 u271 u272 u273 u274 u275 u276 u277 u278 u279 u280 u281 u282 u283 u284 u285 u286 u287 u288 u289 u290 u291 u292 u293 u294 u295 u296 u297 u298 u299 u300:Value) (wz:World),Hid (BdS ⟨w,wn,cb,ab,eb,pb,sb,G⟩ N1 M1 L1 now' an bs came went went pv hb addr tick cid str (.slice ba bl bc) (.slice la2 ln2 lc2) s2 x bo wz)->Code.wp Tryz.prog T Q ⟨(c0::.slice ga n gcap::c2::c3::u4::c5::.pointer (some ⟨cb,0,none⟩)::.pointer (some ⟨sb,0,none⟩)::c8::.pointer (some ⟨ab,0,none⟩)::.pointer (some ⟨eb,0,none⟩)::.pointer (some ⟨pb,0,none⟩)::.int .i64 now'::.int .i64 (k:Int)::.pointer (some ⟨hb,0,none⟩)::.int .i64 (an:Int)::u16::.slice la2 ln2 lc2::u18::u19::u20::u21::u22::u23::u24::u25::u26::u27::u28::u29::u30::u31::u32::c33::c34::c35::c36::c37::c38::c39::c40::c41::c42::c43::c44::c45::c46::c47::c48::c49::c50::u51::u52::u53::u54::u55::u56::u57::u58::u59::u60::u61::u62::u63::u64::u65::u66::u67::u68::u69::u70::u71::u72::u73::u74::u75::u76::u77::u78::u79::u80::u81::u82::u83::u84::u85::u86::u87::u88::u89::u90::u91::u92::u93::u94::u95::u96::u97::u98::u99::u100::u101::u102::u103::u104::u105::u106::u107::u108::u109::u110::u111::u112::u113::u114::u115::u116::u117::u118::u119::u120::u121::u122::u123::u124::u125::u126::u127::u128::u129::u130::u131::u132::u133::u134::u135::u136::u137::u138::u139::u140::u141::u142::u143::u144::u145::u146::u147::u148::u149::u150::u151::u152::u153::u154::u155::u156::u157::u158::u159::u160::u161::u162::u163::u164::u165::u166::u167::u168::u169::u170::u171::u172::u173::u174::u175::u176::u177::u178::u179::u180::u181::u182::u183::u184::u185::u186::u187::u188::u189::u190::u191::u192::u193::u194::u195::u196::u197::u198::u199::u200::u201::u202::u203::u204::u205::u206::u207::u208::u209::u210::u211::u212::u213::u214::u215::u216::u217::u218::u219::u220::u221::u222::u223::u224::u225::u226::u227::u228::u229::u230::u231::u232::u233::u234::u235::u236::u237::u238::u239::u240::u241::u242::u243::u244::u245::u246::u247::u248::u249::u250::u251::u252::u253::u254::u255::u256::u257::u258::u259::u260::u261::u262::u263::u264::u265::u266::u267::u268::u269::u270::u271::u272::u273::u274::u275::u276::u277::u278::u279::u280::u281::u282::u283::u284::u285::u286::u287::u288::u289::u290::u291::u292::u293::u294::u295::u296::u297::u298::u299::u300::[]).toArray,[]⟩ wz)
  {wr:World} (HOk:Hid (cO G)) (HFew:Hid ((tn:Int)<=G.c1)) (hcn:cn<=64) (HCn:Hid (cn=gf s2 64)) (HSr:Hid (BdS ⟨w,wn,cb,ab,eb,pb,sb,G⟩ N1 M1 L1 now' an bs came went went pv hb addr tick cid str (.slice ba bl bc) (.slice la2 ln2 lc2) s2 x bo wr)) (HGr:Hid (wr.heap[tb]? =some (.cells #[.slice ta tn tc,.bool f,.bool r] 46 (0,0)))):
  Code.wp Tryz.prog (cutAt 3 (spine 11 (dW Tryz.f9)) T) Q ⟨(c0::.slice ga n gcap::c2::c3::v4::c5::.pointer (some ⟨cb,0,none⟩)::.pointer (some ⟨sb,0,none⟩)::c8::.pointer (some ⟨ab,0,none⟩)::.pointer (some ⟨eb,0,none⟩)::.pointer (some ⟨pb,0,none⟩)::.int .i64 now'::.int .i64 (k:Int)::.pointer (some ⟨hb,0,none⟩)::.int .i64 (an:Int)::v16::.slice la2 ln2 lc2::.pointer (some ⟨tb,0,none⟩)::v19::v20::v21::v22::v23::v24::.int .i64 (cn:Int)::v26::v27::v28::v29::v30::v31::v32::c33::c34::c35::c36::c37::c38::c39::c40::c41::c42::c43::c44::c45::c46::c47::c48::c49::c50::v51::v52::v53::v54::v55::v56::v57::v58::v59::v60::v61::v62::v63::v64::v65::v66::v67::v68::v69::v70::v71::v72::v73::v74::v75::v76::v77::v78::v79::v80::v81::v82::v83::v84::v85::v86::v87::v88::v89::v90::v91::v92::v93::v94::v95::v96::v97::v98::v99::v100::v101::v102::v103::v104::v105::v106::v107::v108::v109::v110::v111::v112::v113::v114::v115::v116::v117::v118::v119::v120::v121::v122::v123::v124::v125::v126::v127::v128::v129::v130::v131::v132::v133::v134::v135::v136::v137::v138::v139::v140::v141::v142::v143::v144::v145::v146::v147::v148::v149::v150::v151::v152::v153::v154::v155::v156::v157::v158::v159::v160::v161::v162::v163::v164::v165::v166::v167::v168::v169::v170::v171::v172::v173::v174::v175::v176::v177::v178::v179::v180::v181::v182::v183::v184::v185::v186::v187::v188::v189::v190::v191::v192::v193::v194::v195::v196::v197::v198::v199::v200::v201::v202::v203::v204::v205::v206::v207::v208::v209::v210::v211::v212::v213::v214::v215::v216::v217::v218::v219::v220::v221::v222::v223::v224::v225::v226::v227::v228::v229::v230::v231::v232::v233::v234::v235::v236::v237::v238::v239::v240::v241::v242::v243::v244::v245::v246::v247::v248::v249::v250::v251::v252::v253::v254::v255::v256::v257::v258::v259::v260::v261::v262::v263::v264::v265::v266::v267::v268::v269::v270::v271::v272::v273::v274::v275::v276::v277::v278::v279::v280::v281::v282::v283::v284::v285::v286::v287::v288::v289::v290::v291::v292::v293::v294::v295::v296::v297::v298::v299::v300::[]).toArray,[]⟩ wr:=by
 show Code.wp Tryz.prog (Code.seq _ (Code.seq _ (Code.seq _ T))) Q _ _
 have HT:=ae hT
 clear hT
 obtain⟨hc0,hc1,hc3,hc8⟩:(1<=G.c0/\G.c0<=8)/\(8<=G.c1/\G.c1<=4096)/\(1<=G.c3/\G.c3<=8)/\(0<=G.c8/\G.c8<=100000):=⟨HOk.out.c0,HOk.out.c1,HOk.out.c3,HOk.out.c8⟩
 have e1:wr.cell? ⟨cb,1,none⟩= some (.int .i64 G.c1):=ax HSr.out.bd.cfgB 1
 have e3:wr.cell? ⟨cb,3,none⟩= some (.int .i64 G.c3):=ax HSr.out.bd.cfgB 3
 have HMe:Hid (Calls Tryz.prog 28 #[.pointer (some ⟨sb,0,none⟩)] wr fun e w'=>∃(m:Nat) (mm:Int),e=.returned (.int .i64 mm)/\Hid (mm=m*(64+G.c1+32*G.c3)/\(m:Int)<=G.c0/\mm<=G.c8/\cn<=m)/\Hid (BdS ⟨w,wn,cb,ab,eb,pb,sb,G⟩ N1 M1 L1 now' an bs came went went pv hb addr tick cid str (.slice ba bl bc) (.slice la2 ln2 lc2) s2 x bo w')/\(w'.cell? ⟨cb,0,none⟩= some (.int .i64 G.c0)/\w'.cell? ⟨cb,1,none⟩= some (.int .i64 G.c1)/\w'.cell? ⟨cb,8,none⟩= some (.int .i64 G.c8))/\w'.cell? ⟨tb,0,none⟩= some (.slice ta tn tc)):=by
  refine(bd_memory HSr.out).mono ?_
  rintro e w' ⟨m,rfl,h1,h2,h3,hb'⟩
  have hS3:=HSr.out.below hb'.out
  refine⟨m,_,rfl,⟨rfl,h1,h2,?_⟩,hS3,⟨ax hS3.bd.cfgB 0,ax hS3.bd.cfgB 1,ax hS3.bd.cfgB 8⟩,ax (dq HGr.out hb'.out) 0⟩
  rw[HCn.out]
  exact h3
 clear HSr HGr HCn HOk
 go_wp2_with fail
 refine HMe.out.mono ?_
 rintro e w11 ⟨m,mm,rfl,HMm,HS3,⟨f0,f1,f8⟩,g0⟩
 clear HMe e1 e3
 obtain⟨cs,hcs⟩:∃cs,64+G.c1+32*G.c3=cs:=⟨_,rfl⟩
 have hcs0:0<cs:=by omega
 have hcs1:cs<=5000:=by omega
 obtain⟨y1,y2,y3,y4⟩:=HMm.out
 rw[hcs]at y1
 have y5:(cn:Int)*cs<=mm:=by rw[y1];exact Int.mul_le_mul_of_nonneg_right (by omega) (by omega)
 have y6:0<=(cn:Int)*cs:=Int.mul_nonneg (by omega) (by omega)
 have y7:0<=mm:=by omega
 have d1:mm.tmod cs=0:=by rw[y1];exact Int.mul_tmod_left _ _
 have d2:mm.tdiv cs=m:=by rw[y1];exact Int.mul_tdiv_cancel _ (by omega)
 have d3:mm%cs=0:=by rw[y1];exact Int.mul_emod_left _ _
 have d4:mm/cs=m:=by rw[y1];exact Int.mul_ediv_cancel _ (by omega)
 have hcsz:¬cs=0:=by omega
 have hcsb:(cs==0)=false:=by simp[hcsz]
 have v1:decide (G.c8<mm)=false:=decide_eq_false (by omega)
 have v2:decide (G.c0<(m:Int))=false:=decide_eq_false (by omega)
 have v3:decide (mm<(cn:Int)*cs)=false:=decide_eq_false (by omega)
 have v4:decide (G.c1<(tn:Int))=false:=decide_eq_false (by have:=HFew.out;omega)
 have hww:IntKind.i64.wrap ((cn:Int)*cs)=(cn:Int)*cs:=by rw[IntKind.wrap_i64];omega
 have hwm:wrap64 (m:Int)=m:=by unfold wrap64;omega
 clear y1 HMm
 go_upto_region 42 with fail
 clear hcs
 go_quiet (fail)
 have HS4:=ae (HS3.out.below (aj (Below.refl _ w11) nq))
 clear HS3 f0 f1 f8 g0 d1 d2 d3 d4 v1 v2 v3 v4 hww hwm y2 y3 y4 y5 y6 y7 hcsz hcsb hcs0 hcs1 hc0 hc1 hc3 hc8
 generalize w11.drewN nq=w12 at *
 go_wp2_with fail
 exact HT.out _ _ _ _ _ _ _ _ _ _ _ _ _ _ _ _ _ _ _ _ _ _ _ _ _ _ _ _ _ _ _ _ _ _ _ _ _ _ _ _ _ _ _ _ _ _ _ _ _ _ _ _ _ _ _ _ _ _ _ _ _ _ _ _ _ _ _ _ _ _ _ _ _ _ _ _ _ _ _ _ _ _ _ _ _ _ _ _ _ _ _ _ _ _ _ _ _ _ _ _ _ _ _ _ _ _ _ _ _ _ _ _ _ _ _ _ _ _ _ _ _ _ _ _ _ _ _ _ _ _ _ _ _ _ _ _ _ _ _ _ _ _ _ _ _ _ _ _ _ _ _ _ _ _ _ _ _ _ _ _ _ _ _ _ _ _ _ _ _ _ _ _ _ _ _ _ _ _ _ _ _ _ _ _ _ _ _ _ _ _ _ _ _ _ _ _ _ _ _ _ _ _ _ _ _ _ _ _ _ _ _ _ _ _ _ _ _ _ _ _ _ _ _ _ _ _ _ _ _ _ _ _ _ _ _ _ _ _ _ _ _ _ _ _ _ _ _ _ _ _ _ _ _ _ _ _ _ _ _ _ _ _ _ _ _ _ _ _ HS4
theorem bds_t [LoM] {c0 c2 c3 c5 c8 c33 c34 c35 c36 c37 c38 c39 c40 c41 c42 c43 c44 c45 c46 c47 c48 c49 c50:Value}{ga:Option Addr}{gcap:Nat}{w wn:World}{cb ab eb pb sb:Nat}{G:Cfg}{n k:Nat}{now':Int}{an hb:Nat}{addr tick cid str:Int}{ba:Option Addr}{bl bc:Nat}{bs:List Int}{came went:Nat->Int}{pv:Nat->Bool}{N1:Nat}{M1 L1:Int}{la2:Option Addr}{ln2 lc2:Nat}{s2:ay}{x:List (Int×List Int)}{bo:Nat}{v4 v16 v18 v19 v20 v21 v22 v23 v24 v25 v26 v27 v28 v29 v30 v31 v32 v51 v52 v53 v54 v55 v56 v57 v58 v59 v60 v61 v62 v63 v64 v65 v66 v67 v68 v69 v70 v71 v72 v73 v74 v75 v76 v77 v78 v79 v80 v81 v82 v83 v84 v85 v86 v87 v88 v89 v90 v91 v92 v93 v94 v95 v96 v97 v98 v99 v100 v101 v102 v103 v104 v105 v106 v107 v108 v109 v110 v111 v112 v113 v114 v115 v116 v117 v118 v119 v120 v121 v122 v123 v124 v125 v126 v127 v128 v129 v130 v131 v132 v133 v134 v135 v136 v137 v138 v139 v140 v141 v142 v143 v144 v145 v146 v147 v148 v149 v150 v151 v152 v153 v154 v155 v156 v157 v158 v159 v160 v161 v162 v163 v164 v165 v166 v167 v168 v169 v170 v171 v172 v173 v174 v175 v176 v177 v178 v179 v180 v181 v182 v183 v184 v185 v186 v187 v188 v189 v190 v191 v192 v193 v194 v195 v196 v197 v198 v199 v200 v201 v202 v203 v204 v205 v206 v207 v208 v209 v210 v211 v212 v213 v214 v215 v216 v217 v218 v219 v220 v221 v222 v223 v224 v225 v226 v227 v228 v229 v230 v231 v232 v233 v234 v235 v236 v237 v238 v239 v240 v241 v242 v243 v244 v245 v246 v247 v248 v249 v250 v251 v252 v253 v254 v255 v256 v257 v258 v259 v260 v261 v262 v263 v264 v265 v266 v267 v268 v269 v270 v271 v272 v273 v274 v275 v276 v277 v278 v279 v280 v281 v282 v283 v284 v285 v286 v287 v288 v289 v290 v291 v292 v293 v294 v295 v296 v297 v298 v299 v300:Value}{Q:Exit->Act->World->Prop}{T:Code}
  (hT:∀(u4 u16 u17 u18 u19 u20 u21 u22 u23 u24 u25 u26 u27 u28 u29 u30 u31 u32 u51 u52 u53 u54 u55 u56 u57 u58 u59 u60 u61 u62 u63 u64 u65 u66 u67 u68 u69 u70 u71 u72 u73 u74 u75 u76 u77 u78 u79 u80 u81 u82 u83 u84 u85 u86 u87 u88 u89 u90 u91 u92 u93 u94 u95 u96 u97 u98 u99 u100 u101 u102 u103 u104 u105 u106 u107 u108 u109 u110 u111 u112 u113 u114 u115 u116 u117 u118 u119 u120 u121 u122 u123 u124 u125 u126 u127 u128 u129 u130 u131 u132 u133 u134 u135 u136 u137 u138 u139 u140 u141 u142 u143 u144 u145 u146 u147 u148 u149 u150 u151 u152 u153 u154 u155 u156 u157 u158 u159 u160 u161 u162 u163 u164 u165 u166 u167 u168 u169 u170 u171 u172 u173 u174 u175 u176 u177 u178 u179 u180 u181 u182 u183 u184 u185 u186 u187 u188 u189 u190 u191 u192 u193 u194 u195 u196 u197 u198 u199 u200 u201 u202 u203 u204 u205 u206 u207 u208 u209 u210 u211 u212 u213 u214 u215 u216 u217 u218 u219 u220 u221 u222 u223 u224 u225 u226 u227 u228 u229 u230 u231 u232 u233 u234 u235 u236 u237 u238 u239 u240 u241 u242 u243 u244 u245 u246 u247 u248 u249 u250 u251 u252 u253 u254 u255 u256 u257 u258 u259 u260 u261 u262 u263 u264 u265 u266 u267 u268 u269 u270 u271 u272 u273 u274 u275 u276 u277 u278 u279 u280 u281 u282 u283 u284 u285 u286 u287 u288 u289 u290 u291 u292 u293 u294 u295 u296 u297 u298 u299 u300:Value) (wt:Nat->Int) (wz:World),Hid (∀i,wt i=went i+bG i x)->Hid (BdS ⟨w,wn,cb,ab,eb,pb,sb,G⟩ N1 M1 L1 now' an bs came went wt pv hb addr tick cid str (.slice ba bl bc) (.slice la2 ln2 lc2) s2 x bo wz)->Code.wp Tryz.prog T Q ⟨(c0::.slice ga n gcap::c2::c3::u4::c5::.pointer (some ⟨cb,0,none⟩)::.pointer (some ⟨sb,0,none⟩)::c8::.pointer (some ⟨ab,0,none⟩)::.pointer (some ⟨eb,0,none⟩)::.pointer (some ⟨pb,0,none⟩)::.int .i64 now'::.int .i64 (k:Int)::.pointer (some ⟨hb,0,none⟩)::.int .i64 (an:Int)::u16::u17::u18::u19::u20::u21::u22::u23::u24::u25::u26::u27::u28::u29::u30::u31::u32::c33::c34::c35::c36::c37::c38::c39::c40::c41::c42::c43::c44::c45::c46::c47::c48::c49::c50::u51::u52::u53::u54::u55::u56::u57::u58::u59::u60::u61::u62::u63::u64::u65::u66::u67::u68::u69::u70::u71::u72::u73::u74::u75::u76::u77::u78::u79::u80::u81::u82::u83::u84::u85::u86::u87::u88::u89::u90::u91::u92::u93::u94::u95::u96::u97::u98::u99::u100::u101::u102::u103::u104::u105::u106::u107::u108::u109::u110::u111::u112::u113::u114::u115::u116::u117::u118::u119::u120::u121::u122::u123::u124::u125::u126::u127::u128::u129::u130::u131::u132::u133::u134::u135::u136::u137::u138::u139::u140::u141::u142::u143::u144::u145::u146::u147::u148::u149::u150::u151::u152::u153::u154::u155::u156::u157::u158::u159::u160::u161::u162::u163::u164::u165::u166::u167::u168::u169::u170::u171::u172::u173::u174::u175::u176::u177::u178::u179::u180::u181::u182::u183::u184::u185::u186::u187::u188::u189::u190::u191::u192::u193::u194::u195::u196::u197::u198::u199::u200::u201::u202::u203::u204::u205::u206::u207::u208::u209::u210::u211::u212::u213::u214::u215::u216::u217::u218::u219::u220::u221::u222::u223::u224::u225::u226::u227::u228::u229::u230::u231::u232::u233::u234::u235::u236::u237::u238::u239::u240::u241::u242::u243::u244::u245::u246::u247::u248::u249::u250::u251::u252::u253::u254::u255::u256::u257::u258::u259::u260::u261::u262::u263::u264::u265::u266::u267::u268::u269::u270::u271::u272::u273::u274::u275::u276::u277::u278::u279::u280::u281::u282::u283::u284::u285::u286::u287::u288::u289::u290::u291::u292::u293::u294::u295::u296::u297::u298::u299::u300::[]).toArray,[]⟩ wz)
  {wr:World} (HH:Hid (BdH w wn G n k an cid str ba bl bc bs came went)) (HXl:Hid (x.length=ln2)) (HS4:Hid (BdS ⟨w,wn,cb,ab,eb,pb,sb,G⟩ N1 M1 L1 now' an bs came went went pv hb addr tick cid str (.slice ba bl bc) (.slice la2 ln2 lc2) s2 x bo wr)):
  Code.wp Tryz.prog (cutAt 1 (spine 14 (dW Tryz.f9)) T) Q ⟨(c0::.slice ga n gcap::c2::c3::v4::c5::.pointer (some ⟨cb,0,none⟩)::.pointer (some ⟨sb,0,none⟩)::c8::.pointer (some ⟨ab,0,none⟩)::.pointer (some ⟨eb,0,none⟩)::.pointer (some ⟨pb,0,none⟩)::.int .i64 now'::.int .i64 (k:Int)::.pointer (some ⟨hb,0,none⟩)::.int .i64 (an:Int)::v16::.slice la2 ln2 lc2::v18::v19::v20::v21::v22::v23::v24::v25::v26::v27::v28::v29::v30::v31::v32::c33::c34::c35::c36::c37::c38::c39::c40::c41::c42::c43::c44::c45::c46::c47::c48::c49::c50::v51::v52::v53::v54::v55::v56::v57::v58::v59::v60::v61::v62::v63::v64::v65::v66::v67::v68::v69::v70::v71::v72::v73::v74::v75::v76::v77::v78::v79::v80::v81::v82::v83::v84::v85::v86::v87::v88::v89::v90::v91::v92::v93::v94::v95::v96::v97::v98::v99::v100::v101::v102::v103::v104::v105::v106::v107::v108::v109::v110::v111::v112::v113::v114::v115::v116::v117::v118::v119::v120::v121::v122::v123::v124::v125::v126::v127::v128::v129::v130::v131::v132::v133::v134::v135::v136::v137::v138::v139::v140::v141::v142::v143::v144::v145::v146::v147::v148::v149::v150::v151::v152::v153::v154::v155::v156::v157::v158::v159::v160::v161::v162::v163::v164::v165::v166::v167::v168::v169::v170::v171::v172::v173::v174::v175::v176::v177::v178::v179::v180::v181::v182::v183::v184::v185::v186::v187::v188::v189::v190::v191::v192::v193::v194::v195::v196::v197::v198::v199::v200::v201::v202::v203::v204::v205::v206::v207::v208::v209::v210::v211::v212::v213::v214::v215::v216::v217::v218::v219::v220::v221::v222::v223::v224::v225::v226::v227::v228::v229::v230::v231::v232::v233::v234::v235::v236::v237::v238::v239::v240::v241::v242::v243::v244::v245::v246::v247::v248::v249::v250::v251::v252::v253::v254::v255::v256::v257::v258::v259::v260::v261::v262::v263::v264::v265::v266::v267::v268::v269::v270::v271::v272::v273::v274::v275::v276::v277::v278::v279::v280::v281::v282::v283::v284::v285::v286::v287::v288::v289::v290::v291::v292::v293::v294::v295::v296::v297::v298::v299::v300::[]).toArray,[]⟩ wr:=by
 show Code.wp Tryz.prog (Code.seq _ T) Q _ _
 have HT:=ae hT
 clear hT
 have hk:=HH.out.hk
 have hn:=HH.out.hn
 have HCr:=ae HH.out.wr
 have hl2:ln2<=200:=by
  have h1:=HS4.out.ok.count
  have h2:=HS4.out.ok.len
  rw[HXl.out]at h1
  omega
 clear HH
 go_wp2_with fail
 go_loopg [31] ln2 (fun gk iv wr=>∃q:Nat,iv=.int .i64 q/\q<=ln2/\gk=ln2-q/\Hid (∃wt,(BdS ⟨w,wn,cb,ab,eb,pb,sb,G⟩ N1 M1 L1 now' an bs came went wt pv hb addr tick cid str (.slice ba bl bc) (.slice la2 ln2 lc2) s2 x bo wr)/\∀i,wt i=went i+bG i (x.take q)))
 case atStart=>exact⟨0,rfl,by omega,rfl,⟨went,HS4.out,fun i=>by simp[bG]⟩⟩
 case round=>
  obtain⟨p,rfl,hp,rfl,HP⟩:=hrel
  clear HS4
  obtain⟨wp,hwp⟩:∃wp,wp=wr:=⟨_,rfl⟩
  subst hwp
  obtain⟨wt,hS5,hwt⟩:=HP.out
  by_cases hpl:p<ln2
  ·have hpl':(p:Int)<(ln2:Int):=by omega
   obtain⟨⟨oa,ob⟩,ho⟩:∃o,x[p]? =some o:=⟨_,List.getElem?_eq_getElem (by rw[HXl.out];exact hpl)⟩
   obtain⟨ga',bv,e1,q0,q1,hown⟩:=outs_at hS5.outs ho
   obtain⟨va2,vc2,rfl⟩:=be hown
   have hd:=hS5.ok.dst _ (List.mem_of_getElem? ho)
   obtain⟨on,rfl⟩:∃on:Nat,oa=(on:Int):=⟨oa.toNat,(Int.toNat_of_nonneg hd.1).symm⟩
   obtain⟨ol,hol⟩:∃ol,ob.length=ol:=⟨_,rfl⟩
   have hol0:0<ol:=by rw[<-hol];exact List.length_pos_iff.2 hd.2.2
   rw[hol]at q1
   have hos:(on:Int)<256:=by have:=hd.2.1;simp only at this;omega
   have ho0:(0:Int)<=(on:Int):=by omega
   have n1:¬(on:Int)<0:=by omega
   have n2:¬255<(on:Int):=by omega
   have n3:((ol:Int)==0)=false:=by simp;omega
   have a1:wp.cell? ⟨eb,on,none⟩= some (.int .i64 (wt on)):=hS5.bd.wa.cell on (by omega)
   have z1:∀q,wp.frozen? ⟨eb,q,none⟩= false:=hS5.bd.wa.frozen
   have hst:=sent_take ho on
   rw[if_pos rfl]at hst
   simp only[hol]at hst
   have hle:=sent_take_le x (p+1) on
   have hlx:=hS5.ok.len
   have hwo:=hwt on
   have hww:=HCr.out on
   have h0:=(sent_take_le x p on).1
   have hrg:0<=wt on/\wt on+(ol:Int)<=1000000000000:=by omega
   have hwr:IntKind.i64.wrap (wt on+(ol:Int))=wt on+ol:=by rw[IntKind.wrap_i64];omega
   have HNx:Hid (∃wt',(BdS ⟨w,wn,cb,ab,eb,pb,sb,G⟩ N1 M1 L1 now' an bs came went wt' pv hb addr tick cid str (.slice ba bl bc) (.slice la2 ln2 lc2) s2 x bo (wp.setCell ⟨eb,on,none⟩ (.int .i64 (wt on+ol))).drew)/\∀i,wt' i=went i+bG i (x.take (p+1))):=by
    refine⟨fun i=>if i=on then wt on+ol else wt i,hS5.pay on (wt on+ol) (fun _=>rfl),fun i=>?_⟩
    rw[sent_take ho i]
    simp only[hol]
    by_cases hi:i=on
    ·subst hi
     rw[if_pos rfl,if_pos rfl,hwt i]
     omega
    ·rw[if_neg hi,if_neg (fun e=>hi (by omega)),hwt i]
     omega
   subst e1
   clear hS5 hwt HP hown hd hol hst hle hlx hwo hww ho h0 HCr hk hn
   generalize wt on=wv at *
   have d0:wp.drew.cell? ⟨ga',p*2,none⟩= some (.int .i64 (on:Int)):=q0
   have d1:wp.drew.cell? ⟨ga',p*2+1,none⟩= some (.slice va2 ol vc2):=q1
   have d2:wp.drew.cell? ⟨eb,on,none⟩= some (.int .i64 wv):=a1
   have z2:∀q,wp.drew.frozen? ⟨eb,q,none⟩= false:=z1
   go_upto_region 49 with fail
   refine wp_region_still_tail 20 (by kernel_rfl) (by kernel_rfl) ?_
   simp only[List.take_succ_cons,List.take_zero,List.drop_succ_cons,List.drop_zero]
   still_step
   still_step
   still_step
   still_step
   still_step
   still_step
   still_step
   still_step
   still_step
   still_step
   still_step
   still_step
   still_step
   still_step
   still_step
   still_step
   still_step
   still_step
   still_step
   still_step
   refine wpStill_nil ?_
   have e15:({heap:=wp.heap,tape:=wp.tape,drawn:=wp.drawn+1,os:=wp.os,output:=wp.output}:World)=wp.drew:=rfl
   rw[e15]
   go_wp2_with fail
   go_roundg (ln2-(p+1))
   case measure=>omega
   case rel=>exact⟨p+1,by go_num,by omega,rfl,HNx⟩
  ·have hpl':¬(p:Int)<(ln2:Int):=by omega
   have HWt:Hid (∀i,wt i=went i+bG i x):=by
    intro i
    rw[hwt i,List.take_of_length_le (by rw[HXl.out];omega)]
   have HS6:=ae hS5
   clear hS5 hwt HP
   go_wp2_with fail
   exact HT.out _ _ _ _ _ _ _ _ _ _ _ _ _ _ _ _ _ _ _ _ _ _ _ _ _ _ _ _ _ _ _ _ _ _ _ _ _ _ _ _ _ _ _ _ _ _ _ _ _ _ _ _ _ _ _ _ _ _ _ _ _ _ _ _ _ _ _ _ _ _ _ _ _ _ _ _ _ _ _ _ _ _ _ _ _ _ _ _ _ _ _ _ _ _ _ _ _ _ _ _ _ _ _ _ _ _ _ _ _ _ _ _ _ _ _ _ _ _ _ _ _ _ _ _ _ _ _ _ _ _ _ _ _ _ _ _ _ _ _ _ _ _ _ _ _ _ _ _ _ _ _ _ _ _ _ _ _ _ _ _ _ _ _ _ _ _ _ _ _ _ _ _ _ _ _ _ _ _ _ _ _ _ _ _ _ _ _ _ _ _ _ _ _ _ _ _ _ _ _ _ _ _ _ _ _ _ _ _ _ _ _ _ _ _ _ _ _ _ _ _ _ _ _ _ _ _ _ _ _ _ _ _ _ _ _ _ _ _ _ _ _ _ _ _ _ _ _ _ _ _ _ _ _ _ _ _ _ _ _ _ _ _ _ _ _ _ _ _ _ _ HWt HS6
end Go.Proofs.YthmdjhlhodpbhaaGreatDoor
