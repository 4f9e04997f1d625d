import Derived.Test.YtkhcgclnmdgpbaaDoorM6
set_option maxRecDepth 100000
set_option maxHeartbeats 16000000
set_option linter.unusedSimpArgs false
set_option linter.unusedVariables false
namespace Go.Proofs.YtkhcgclnmdgpbaaDoor
open Go.RowKit
theorem Xee:(Tryd.prog.info? 174).map (·.zero)=some (some (.agg (wrkC ask0 (.pointer none) (.pointer none)).toArray)):=by kernel_rfl
theorem Xek{x:LAsk}(h:x.owner.length=32)(pa pb:Value):(Tryd.prog.info? 174).map (·.size)=some (wrkC x pa pb).length:=by
 rw[Xbr h];kernel_rfl
theorem Xf3{x:LAsk}{pa pb:Value}(ha:pa.oneCell'=true)(hb:pb.oneCell'=true):∀u ∈ wrkC x pa pb,u.oneCell'=true:=by
 intro u hu;unfold wrkC at hu;rcases List.mem_append.1 hu with hu | hu
 ·exact Xba x u hu
 ·simp only[List.mem_cons,List.not_mem_nil,or_false]at hu;rcases hu with rfl | rfl
  ·exact ha
  ·exact hb
theorem Xdg{x:LAsk}(h:x.owner.length=32)(p:Option Addr):Tryd.prog.built 174 [(0,.agg (askC x).toArray),(1,.pointer p)]=some (wrkC x (.pointer p) (.pointer none)).toArray:=by
 obtain⟨t,c,s,o⟩:=x;have e:∀f:Fin 32→Int,Tryd.prog.built 174 [(0,.agg (askC ⟨t,c,s,List.ofFn f⟩).toArray),(1,.pointer p)]=some (wrkC ⟨t,c,s,List.ofFn f⟩ (.pointer p) (.pointer none)).toArray:=fun f=>by kernel_rfl
 have h2:o=List.ofFn fun i:Fin 32=>o.getD i.1 0:=by
  apply List.ext_getElem
  ·rw[List.length_ofFn];exact h
  ·intro i h1 h2;rw[List.getElem_ofFn,List.getD_eq_getElem?_getD,List.getElem?_eq_getElem h1];rfl
 rw[h2];exact e _
theorem Xq3{x:LAsk}(h:x.owner.length=32)(pa pb pc:Value):(wrkC x pa pb).set 36 pc=wrkC x pa pc:=by
 unfold wrkC;rw[List.set_append_right _ _ (by rw[Xaq h];omega),Xaq h];rfl
theorem Xdj{P:Program}{o:Oper}{a:Act}{w:World}{K:Act→World→Prop}{Q:Exit→Act→World→Prop}(t:TypeId)(m x:Operand)(hop:o.op=Op.lookup t m x false)(mv key v:Value)(hm:a.eval m=mv)(hx:a.eval x=key)
 (hrun:(Instr.lookup t mv key false).run P w=.ok v w) (h:K (a.put o.dst v) w):o.wp P a w K Q:=by
 unfold Oper.wp;simp[execOp,hop,hm,hx,hrun,Result.andThen];exact h
theorem Xd9{l:List LAcc}{x:LAsk}{a b:Nat}(h:(deed14 l x a b).e≠0):deed14 l x a b=bad14 (deed14 l x a b).e:=by
 have hb:∀k,bad14 k=bad14 (bad14 k).e:=fun _=>rfl
 revert h
 unfold deed14 make14 assign14 move14 space14;intro h;split at h
 ·rename_i h1
  rw[if_pos h1];split at h
  ·rename_i q;rw[if_pos q];exact hb _
  rename_i q;rw[if_neg q]
  split at h
  ·rename_i q;rw[if_pos q];exact hb _
  rename_i q;rw[if_neg q]
  split at h
  ·rename_i q;rw[if_pos q];exact hb _
  rename_i q;rw[if_neg q]
  split at h
  ·rename_i q;rw[if_pos q];exact hb _
  ·exact absurd rfl h
 rename_i h1
 rw[if_neg h1];split at h
 ·rename_i h2
  rw[if_pos h2];split at h
  ·rename_i q;rw[if_pos q];exact hb _
  ·exact absurd rfl h
 rename_i h2
 rw[if_neg h2];split at h
 ·rename_i h3
  rw[if_pos h3];split at h
  ·rename_i q;rw[if_pos q];exact hb _
  rename_i q;rw[if_neg q]
  split at h
  ·rename_i q;rw[if_pos q];exact hb _
  rename_i q;rw[if_neg q]
  split at h
  ·exact absurd rfl h
  rename_i q;rw[if_neg q]
  split at h
  ·rename_i q;rw[if_pos q];exact hb _
  ·exact absurd rfl h
 rename_i h3
 rw[if_neg h3];split at h
 ·rename_i q;rw[if_pos q];exact hb _
 rename_i q;rw[if_neg q]
 split at h
 ·rename_i q;rw[if_pos q];exact hb _
 ·exact absurd rfl h
theorem Xgd{l:List LAcc}{x:LAsk}(hx:AskOk x){a b:Nat}(h:(deed14 l x a b).e=0):(deed14 l x a b).n=x.space:=by
 revert h
 unfold deed14 make14 assign14 move14 space14;intro h;split at h
 ·rename_i h1
  rw[if_pos h1];split at h
  ·cases h
  rename_i q;rw[if_neg q]
  split at h
  ·cases h
  rename_i q;rw[if_neg q]
  split at h
  ·cases h
  rename_i q;rw[if_neg q]
  split at h
  ·cases h
  rename_i q;rw[if_neg q]
 rename_i h1
 rw[if_neg h1];split at h
 ·rename_i h2
  rw[if_pos h2];split at h
  ·cases h
  rename_i q;rw[if_neg q]
  exact(hx.one h2).symm
 rename_i h2
 rw[if_neg h2];split at h
 ·rename_i h3
  have e:=(hx.two h3).symm;rw[if_pos h3];split at h
  ·cases h
  rename_i q;rw[if_neg q]
  split at h
  ·cases h
  rename_i q;rw[if_neg q]
  split at h
  ·rename_i q;rw[if_pos q];exact e
  rename_i q;rw[if_neg q]
  split at h
  ·cases h
  rename_i q;rw[if_neg q]
  exact e
 rename_i h3
 rw[if_neg h3];split at h
 ·cases h
 rename_i q;rw[if_neg q]
 split at h
 ·cases h
 rename_i q;rw[if_neg q]
theorem Xqe(base g h cap n:Nat)(rest:List Value)(x:LAsk)(hx:AskOk x)(a b:Nat)(l:List LAcc)(V:World)(hd:DS V V base g h cap n rest x (.pointer (some ⟨g,a*34,none⟩)) (.pointer (some ⟨g,b*34,none⟩)) l)(ha:a<n)(hb:b<n):Calls Tryd.prog 73 #[.pointer (some ⟨h,0,none⟩)] V (DeedDone V base g h cap n rest x (.pointer (some ⟨g,a*34,none⟩)) (.pointer (some ⟨g,b*34,none⟩)) (make14 l x a b)):=by
 by_cases h1:getA l b=blank13
 rotate_left
 ·exact Xna base g h cap n rest x hx a b _ _ l V hd ha rfl hb rfl h1
 by_cases h2:plain14 (getA l a)
 rotate_left
 ·exact Xnj base g h cap n rest x hx a b _ _ l V hd ha rfl hb rfl h1 h2
 by_cases h3:1048576<x.space
 ·exact Xmn base g h cap n rest x hx a b _ _ l V hd ha rfl hb rfl h1 h2 h3
 by_cases h4:(getA l a).c<x.coins
 ·exact Xnq base g h cap n rest x hx a b _ _ l V hd ha rfl hb rfl h1 h2 h3 h4
 ·exact Xp7 base g h cap n rest x hx a b _ _ l V hd ha rfl hb rfl h1 h2 h3 h4
theorem Xkl(base g h cap n:Nat)(rest:List Value)(x:LAsk)(hx:AskOk x)(a b:Nat)(l:List LAcc)(V:World)(pb:Value)(hd:DS V V base g h cap n rest x (.pointer (some ⟨g,a*34,none⟩)) pb l)(ha:a<n):Calls Tryd.prog 74 #[.pointer (some ⟨h,0,none⟩)] V (DeedDone V base g h cap n rest x (.pointer (some ⟨g,a*34,none⟩)) pb (assign14 l x a)):=by
 by_cases h1:(getA l a).o=k0
 ·exact Xpg base g h cap n rest x hx a b _ _ l V hd ha rfl h1
 ·exact Xnk base g h cap n rest x hx a b _ _ l V hd ha rfl h1
theorem Xpu(base g h cap n:Nat)(rest:List Value)(x:LAsk)(hx:AskOk x)(a b:Nat)(l:List LAcc)(V:World)(pb:Value)(hd:DS V V base g h cap n rest x (.pointer (some ⟨g,a*34,none⟩)) pb l)(ha:a<n):Calls Tryd.prog 76 #[.pointer (some ⟨h,0,none⟩)] V (DeedDone V base g h cap n rest x (.pointer (some ⟨g,a*34,none⟩)) pb (space14 l x a)):=by
 by_cases h2:plain14 (getA l a)
 rotate_left
 ·exact Xmy base g h cap n rest x hx a b _ _ l V hd ha rfl h2
 by_cases h3:1048576<x.space
 ·exact Xnr base g h cap n rest x hx a b _ _ l V hd ha rfl h2 h3
 ·exact Xqs base g h cap n rest x hx a b _ _ l V hd ha rfl h2 h3
theorem Xqp(base g h cap n:Nat)(rest:List Value)(x:LAsk)(hx:AskOk x)(a b:Nat)(l:List LAcc)(V:World)(hd:DS V V base g h cap n rest x (.pointer (some ⟨g,a*34,none⟩)) (.pointer (some ⟨g,b*34,none⟩)) l)(ha:a<n)(hb:b<n):Calls Tryd.prog 75 #[.pointer (some ⟨h,0,none⟩)] V (DeedDone V base g h cap n rest x (.pointer (some ⟨g,a*34,none⟩)) (.pointer (some ⟨g,b*34,none⟩)) (move14 l x a b)):=by
 by_cases h2:plain14 (getA l a)
 rotate_left
 ·exact Xms base g h cap n rest x hx a b _ _ l V hd ha rfl hb rfl h2
 by_cases h4:(getA l a).c<x.coins
 ·exact Xmt base g h cap n rest x hx a b _ _ l V hd ha rfl hb rfl h2 h4
 by_cases h3:18446744073709551615 - x.coins<(getA (l.set a ⟨(getA l a).c - x.coins,(getA l a).o,(getA l a).s⟩) b).c
 ·exact Xpq base g h cap n rest x hx a b _ _ l V hd ha rfl hb rfl h2 h4 h3
 ·exact Xqb base g h cap n rest x hx a b _ _ l V hd ha rfl hb rfl h2 h4 h3
structure DOs(w V:World)(g5 g9:Nat)(ic:List Value)(x:LAsk):Prop where
 b:Below w.heap.size w V
 r5:Row V g5 108 ic
 r9:Row V g9 165 (askC x)
 lt:w.heap.size≤g5∧g5<g9
structure DQ(w V:World)(g5 g9 g h cap n:Nat)(rest:List Value)(x:LAsk)(pa pb:Value)(out:List LAcc)(ic:List Value):Prop where
 p:DOs w V g5 g9 ic x
 o:OutAt V w.heap.size g cap n rest out
 rh:Row V h 174 (wrkC x pa pb)
 gt:g9<g∧g9<h∧h≠g
section
variable{w V V':World}{g5 g9 g h cap n:Nat}{rest:List Value}{x:LAsk}{pa pb pc:Value}{out out':List LAcc}{ic:List Value}
theorem DOs.below(d:DOs w V g5 g9 ic x)(hb:Below V.heap.size V V'):DOs w V' g5 g9 ic x:=⟨d.b.trans (hb.mono d.b.size),d.r5.below hb d.r5.lt,d.r9.below hb d.r9.lt,d.lt⟩
theorem DOs.drew(d:DOs w V g5 g9 ic x):DOs w V.drew g5 g9 ic x:=d.below ⟨rfl,rfl,rfl,Lr _,fun _ _=>rfl⟩
theorem DOs.but(d:DOs w V g5 g9 ic x){k:Nat}(hb:But k V V')(hk:g9<k):DOs w V' g5 g9 ic x:=
 ⟨d.b.trans (hb.below (by have:=d.lt;omega) d.b.size),hb.row d.r5 (by have:=d.lt;omega),hb.row d.r9 (by omega),d.lt⟩
theorem DQ.below(d:DQ w V g5 g9 g h cap n rest x pa pb out ic)(hb:Below V.heap.size V V'):DQ w V' g5 g9 g h cap n rest x pa pb out ic:=⟨d.p.below hb,d.o.below hb,d.rh.below hb d.rh.lt,d.gt⟩
theorem DQ.drew(d:DQ w V g5 g9 g h cap n rest x pa pb out ic):DQ w V.drew g5 g9 g h cap n rest x pa pb out ic:=d.below ⟨rfl,rfl,rfl,Lr _,fun _ _=>rfl⟩
theorem DQ.drewN(d:DQ w V g5 g9 g h cap n rest x pa pb out ic)(q:Nat):DQ w (V.drewN q) g5 g9 g h cap n rest x pa pb out ic:=d.below ⟨rfl,rfl,rfl,Lr _,fun _ _=>rfl⟩
theorem DQ.ds(d:DQ w V g5 g9 g h cap n rest x pa pb out ic)(hx:x.owner.length=32):DS V V w.heap.size g h cap n rest x pa pb out:=⟨But.refl _ _,d.o,d.rh,d.gt.2.2,hx⟩
theorem DQ.deed(d:DQ w V g5 g9 g h cap n rest x pa pb out ic)(hs:DS V V' w.heap.size g h cap n rest x pa pb out'):DQ w V' g5 g9 g h cap n rest x pa pb out' ic:=⟨d.p.but hs.b d.gt.1,hs.o,hs.rh,d.gt⟩
theorem DQ.second(d:DQ w V g5 g9 g h cap n rest x pa pb out ic)(hx:x.owner.length=32)(pc:Value):DQ w (V.setCell ⟨h,36,none⟩ pc) g5 g9 g h cap n rest x pa pc out ic:=by
 have ht:=Xa0 V ⟨h,36,none⟩ pc;refine⟨d.p.but (.of_turned ht) d.gt.2.1,⟨ht.row d.o.row (Ne.symm d.gt.2.2),d.o.lo,d.o.len,d.o.room,d.o.all,d.o.ok⟩,?_,d.gt⟩;have:=d.rh.set_ 36 pc;rwa [Xq3 hx]at this
theorem DQ.outs(d:DQ w V g5 g9 g h cap n rest x pa pb out ic):OA14 V w.heap.size (.slice (some ⟨g,0,none⟩) n n) out:=by
 obtain⟨A,c,c',e,h1,h2,h3⟩:=d.o.done.is;injection e with e1 _ e3
 subst e1;have hl:=d.o.len;refine⟨⟨some ⟨g,0,none⟩,n,c',by rw[hl],by omega,by have:=d.o.room.1;omega,h3⟩,d.o.ok⟩
end
theorem Xo0(l:List LAcc)(r:List LRole)(p:Int)(IA:Option Addr)(n c:Nat)(D:Option Addr)(dn dc:Nat)(acc dat:List Int)(LA:Option Addr)(ln lc:Nat)(RA:Option Addr)(rn rc:Nat)(B:Nat)(w:World)
 (hl:AccsIn w B LA ln l) (hlc:ln≤lc) (hr:RolesIn w B RA rn r) (hi:InsAt14 w B p IA n c D dn dc acc dat) (hB:B≤w.heap.size) (hn:n≤100000) (hln:ln≤100000) (hrn:rn≤100000) (hne:ln≠rn) :
 Calls Tryd.prog 61 #[.slice LA ln lc,.slice RA rn rc,.agg (insC p IA n c D dn dc).toArray] w (DoDone w (do14 l r acc dat)):=by
 have HD:Hid (do14 l r acc dat=bad14 1):=Hd (by unfold do14;rw[if_pos (by rw[hl.len,hr.len];exact hne)]);have hne':¬(ln:Int)=(rn:Int):=fun e=>hne (by exact_mod_cast e)
 clear hne;have HLL:=Hd hl.len;have HLR:=Hd hr.len;have hbw:=(Br w.heap.size w).alloc (Lr _) (.cells (insC p IA n c D dn dc).toArray 108);have HBW:=Hd hbw;have R5:=Hd (Row.new w 108 (insC p IA n c D dn dc));have HL:=Hd hl;have HR:=Hd hr;have HI:=Hd hi;have HB:=Hd hB;clear hbw hl hr hi;obtain⟨g5,hg5⟩:∃g,g=w.heap.size:=⟨_,rfl⟩;have HG5:Hid (w.heap.size=g5):=Hd hg5.symm;rw[←hg5]at R5;clear hg5;generalize hW:w.alloc (.cells (insC p IA n c D dn dc).toArray 108)=W at *;have HW:=Hd hW;clear hW;go_enter Tryd.func61,Tryd.ntmps61
 go_upto_region 1 with fail
 try rw[HG5.out]
 rw[HW.out];clear HW;go_wp2_with fail;go_ret3
 exact Xdi HD.out HBW.out
theorem Xnw(l:List LAcc)(r:List LRole)(p:Int)(IA:Option Addr)(n c:Nat)(D:Option Addr)(dn dc:Nat)(acc dat:List Int)(LA:Option Addr)(ln lc:Nat)(RA:Option Addr)(rn rc:Nat)(B:Nat)(w:World)
 (hl:AccsIn w B LA ln l) (hlc:ln≤lc) (hr:RolesIn w B RA rn r) (hi:InsAt14 w B p IA n c D dn dc acc dat) (hB:B≤w.heap.size) (hn:n≤100000) (hln:ln≤100000) (hrn:rn≤100000) (heq:ln=rn) (hdat:dat14 dat=none) :
 Calls Tryd.prog 61 #[.slice LA ln lc,.slice RA rn rc,.agg (insC p IA n c D dn dc).toArray] w (DoDone w (do14 l r acc dat)):=by
 have HD:Hid (do14 l r acc dat=bad14 13):=Hd (by unfold do14;rw[if_neg (by rw[hl.len,hr.len];omega),hdat]);have HOK:Hid ((rd14 dat).ok=false):=Hd (by rw[(Xbn dat).1,hdat];rfl);subst heq;have HLL:=Hd hl.len;have HLR:=Hd hr.len;have hbw:=(Br w.heap.size w).alloc (Lr _) (.cells (insC p IA n c D dn dc).toArray 108);have HBW:=Hd hbw;have R5:=Hd (Row.new w 108 (insC p IA n c D dn dc));have HL:=Hd hl;have HR:=Hd hr;have HI:=Hd hi;have HB:=Hd hB;clear hbw hl hr hi;obtain⟨g5,hg5⟩:∃g,g=w.heap.size:=⟨_,rfl⟩;have HG5:Hid (w.heap.size=g5):=Hd hg5.symm;rw[←hg5]at R5;clear hg5;generalize hW:w.alloc (.cells (insC p IA n c D dn dc).toArray 108)=W at *;have HW:=Hd hW;clear hW;go_enter Tryd.func61,Tryd.ntmps61
 go_upto_region 1 with fail
 try rw[HG5.out]
 rw[HW.out];clear HW;have c52:W.cell? ⟨g5,2,none⟩=some (.slice D dn dc):=R5.out.cell 2;have HRD:=Hd (Xfz D dn dc B dat W (HI.out.dSees.below (HBW.out.mono HB.out)) (Lq HB.out HBW.out.size) HI.out.dc.1 HI.out.dc.2 HI.out.db);go_upto_region 3 with fail
 go_wp2_with fail;clear c52;refine HRD.out.mono ?_;rintro e w1 ⟨rfl,hyl,hb1⟩;have B1:=Hd (HBW.out.trans (hb1.mono HBW.out.size));have R51:=Hd (R5.out.below hb1 R5.out.lt);have HY:=Hd hyl;clear hb1 hyl HRD HBW R5;rw[HOK.out];go_upto_region 4 with(first
  | ((with_reducible show wpList _ _ _ (⟨some 9,_,_,_,_,_⟩::_) _ _);go_must(refine Xa2 rfl 165 rfl (askC ask0) Xb1 ?_))
  | ((with_reducible show wpList _ _ _ (⟨none,Op.store 165 _ _,_,_,_,_⟩::_) _ _);go_must(refine Xa6 rfl 165 (.tmp 9) (.tmp 24) rfl (askC (rd14 dat).y) (Xa7 HY.out) (Xba _) ((show(askC ask0).toArray.size=35 from rfl).trans (Xaq HY.out).symm) ?_ ?_ ?_;go_simp;go_simp;intro w2 hr2 hb2 hz2)))
 obtain⟨g9,hg9⟩:∃g,g=w1.heap.size:=⟨_,rfl⟩;have P2:Hid (DOs w w2 g5 w1.heap.size (insC p IA n c D dn dc) (rd14 dat).y):=Hd ⟨B1.out.trans (hb2.mono B1.out.size),R51.out.below hb2 R51.out.lt,hr2,⟨Nat.le_of_eq HG5.out,R51.out.lt⟩⟩;rw[←hg9]at P2 ⊢;clear hr2 hb2 hz2 hg9 B1 R51 HG5;go_wp2_with fail;go_ret3
 exact Xdi HD.out P2.out.b
theorem Xps(l:List LAcc)(r:List LRole)(p:Int)(IA:Option Addr)(n c:Nat)(D:Option Addr)(dn dc:Nat)(acc dat:List Int)(LA:Option Addr)(ln lc:Nat)(RA:Option Addr)(rn rc:Nat)(B:Nat)(w:World)
 (hl:AccsIn w B LA ln l) (hlc:ln≤lc) (hr:RolesIn w B RA rn r) (hi:InsAt14 w B p IA n c D dn dc acc dat) (hB:B≤w.heap.size) (hn:n≤100000) (hln:ln≤100000) (hrn:rn≤100000) (heq:ln=rn) (x:LAsk) (hdat:dat14 dat=some x) (hf:n<need14 x) :
 Calls Tryd.prog 61 #[.slice LA ln lc,.slice RA rn rc,.agg (insC p IA n c D dn dc).toArray] w (DoDone w (do14 l r acc dat)):=by
 have HAO:=Hd (Xbt hi.db hdat);have HOK:Hid ((rd14 dat).ok=true):=Hd (by rw[(Xbn dat).1,hdat];rfl);have HYX:Hid ((rd14 dat).y=x):=Hd ((Xbn dat).2 x hdat);have HAL:Hid (acc.length=n):=Hd (by have:=hi.aSees.len;rwa [bL]at this);have HD:Hid (do14 l r acc dat=bad14 8):=Hd (by
  have hp:plc14 x r acc=8:=Xt3 (by rw[HAL.out];exact hf);unfold do14;rw[if_neg (by rw[hl.len,hr.len];omega),hdat];dsimp only
  rw[if_pos (by rw[hp];decide),hp])
 have hf':(n:Int)<(need14 x:Nat):=by omega
 subst heq;have HLL:=Hd hl.len;have HLR:=Hd hr.len;have hbw:=(Br w.heap.size w).alloc (Lr _) (.cells (insC p IA n c D dn dc).toArray 108);have HBW:=Hd hbw;have R5:=Hd (Row.new w 108 (insC p IA n c D dn dc));have HL:=Hd hl;have HR:=Hd hr;have HI:=Hd hi;have HB:=Hd hB;clear hbw hl hr hi;obtain⟨g5,hg5⟩:∃g,g=w.heap.size:=⟨_,rfl⟩;have HG5:Hid (w.heap.size=g5):=Hd hg5.symm;rw[←hg5]at R5;clear hg5;generalize hW:w.alloc (.cells (insC p IA n c D dn dc).toArray 108)=W at *;have HW:=Hd hW;clear hW;go_enter Tryd.func61,Tryd.ntmps61
 go_upto_region 1 with fail
 try rw[HG5.out]
 rw[HW.out];clear HW;have c52:W.cell? ⟨g5,2,none⟩=some (.slice D dn dc):=R5.out.cell 2;have HRD:=Hd (Xfz D dn dc B dat W (HI.out.dSees.below (HBW.out.mono HB.out)) (Lq HB.out HBW.out.size) HI.out.dc.1 HI.out.dc.2 HI.out.db);go_upto_region 3 with fail
 go_wp2_with fail;clear c52;refine HRD.out.mono ?_;rintro e w1 ⟨rfl,hyl,hb1⟩;have B1:=Hd (HBW.out.trans (hb1.mono HBW.out.size));have R51:=Hd (R5.out.below hb1 R5.out.lt);have HY:=Hd hyl;clear hb1 hyl HRD HBW R5;rw[HOK.out];rw[HYX.out];rw[HYX.out]at HY;go_upto_region 4 with(first
  | ((with_reducible show wpList _ _ _ (⟨some 9,_,_,_,_,_⟩::_) _ _);go_must(refine Xa2 rfl 165 rfl (askC ask0) Xb1 ?_))
  | ((with_reducible show wpList _ _ _ (⟨none,Op.store 165 _ _,_,_,_,_⟩::_) _ _);go_must(refine Xa6 rfl 165 (.tmp 9) (.tmp 24) rfl (askC x) (Xa7 HY.out) (Xba _) ((show(askC ask0).toArray.size=35 from rfl).trans (Xaq HY.out).symm) ?_ ?_ ?_;go_simp;go_simp;intro w2 hr2 hb2 hz2)))
 obtain⟨g9,hg9⟩:∃g,g=w1.heap.size:=⟨_,rfl⟩;have P2:Hid (DOs w w2 g5 w1.heap.size (insC p IA n c D dn dc) x):=Hd ⟨B1.out.trans (hb2.mono B1.out.size),R51.out.below hb2 R51.out.lt,hr2,⟨Nat.le_of_eq HG5.out,R51.out.lt⟩⟩;rw[←hg9]at P2 ⊢;clear hr2 hb2 hz2 hg9 B1 R51 HG5;go_upto_region 6 with fail
 refine wp_region_held_drew (S:=(fun V=>DOs w V g5 g9 (insC p IA n c D dn dc) x)) (by kernel_rfl) P2.out.drew (fun _=>?_);refine Tk 0 rfl ?_ P2.out.drew ?_ ⟨?_,rfl⟩
 ·intro w hw;(try dsimp only at hw);go_simp;try with_reducible rfl
 try simp only[nm]
 refine Tk 1 rfl ?_ P2.out.drew ?_ ⟨?_,rfl⟩
 ·intro w hw;try dsimp only at hw
  have c51:w.cell? ⟨g5,1,none⟩=some (.slice IA n c):=hw.r5.cell 1;go_simp;try with_reducible rfl
 try simp only[nm]
 refine Tk 2 rfl ?_ P2.out.drew ?_ ⟨?_,rfl⟩
 ·intro w hw;(try dsimp only at hw);go_simp;try with_reducible rfl
 try simp only[nm]
 refine Tl 3 (v:=.agg (askC x).toArray) rfl (Or.inl ⟨by rfl,fun wz hwz=>Xa4 wz 165 (.tmp 9) rfl ⟨g9,0,none⟩ (askC x) _ Tryd.underlying165 rfl (Xa7 HY.out) (fun j u hu=>by rw[Xac,Nat.zero_add];exact(hwz.r9.cell j).trans hu) (by go_simp)⟩) P2.out.drew ?_;try simp only[nm]
 refine Rl 4 rfl fun K hK=>?_
 go_simp;refine(Xdx x _).mono ?_;rintro e w3 ⟨rfl,hb3⟩;have P3:=Hd (P2.out.drew.below hb3);clear hb3;refine hK.out _ _ P3.out ?_;clear hK K P2;try simp only[nm]
 refine Tk 5 rfl ?_ P3.out ?_ ⟨?_,rfl⟩
 ·intro w hw;(try dsimp only at hw);go_simp;try with_reducible rfl
 try simp only[nm]
 refine Tk 6 rfl ?_ P3.out ?_ ⟨?_,rfl⟩
 ·intro w hw;(try dsimp only at hw);go_simp;try with_reducible rfl
 try simp only[nm]
 refine Tl 7 (v:=undef) rfl (Or.inr ⟨by rfl,rfl⟩) P3.out ?_;try simp only[nm]
 refine Tl 8 (v:=undef) rfl (Or.inr ⟨by rfl,rfl⟩) P3.out ?_;try simp only[nm]
 refine Tl 9 (v:=undef) rfl (Or.inr ⟨by rfl,rfl⟩) P3.out ?_;try simp only[nm]
 refine Tl 10 (v:=undef) rfl (Or.inr ⟨by rfl,rfl⟩) P3.out ?_;try simp only[nm]
 refine Tl 11 (v:=undef) rfl (Or.inr ⟨by rfl,rfl⟩) P3.out ?_;try simp only[nm]
 refine Tk 12 rfl ?_ P3.out ?_ ⟨?_,rfl⟩
 ·intro w hw;(try dsimp only at hw);go_simp;try with_reducible rfl
 try simp only[nm]
 refine wpAnyH_done (by kernel_rfl) ?_ _;go_wp2_with fail;go_ret3
 exact Xdi HD.out P3.out.b
theorem Xq8(l:List LAcc)(r:List LRole)(p:Int)(IA:Option Addr)(n c:Nat)(D:Option Addr)(dn dc:Nat)(acc dat:List Int)(LA:Option Addr)(ln lc:Nat)(RA:Option Addr)(rn rc:Nat)(B:Nat)(w:World)
 (hl:AccsIn w B LA ln l) (hlc:ln≤lc) (hr:RolesIn w B RA rn r) (hi:InsAt14 w B p IA n c D dn dc acc dat) (hB:B≤w.heap.size) (hn:n≤100000) (hln:ln≤100000) (hrn:rn≤100000) (heq:ln=rn) (x:LAsk) (hdat:dat14 dat=some x) (hf:¬n<need14 x) (ho:acc.any (byd14 ln)=true) :
 Calls Tryd.prog 61 #[.slice LA ln lc,.slice RA rn rc,.agg (insC p IA n c D dn dc).toArray] w (DoDone w (do14 l r acc dat)):=by
 have HAO:=Hd (Xbt hi.db hdat);have HOK:Hid ((rd14 dat).ok=true):=Hd (by rw[(Xbn dat).1,hdat];rfl);have HYX:Hid ((rd14 dat).y=x):=Hd ((Xbn dat).2 x hdat);have HAL:Hid (acc.length=n):=Hd (by have:=hi.aSees.len;rwa [bL]at this);have HD:Hid (do14 l r acc dat=bad14 8):=Hd (by
  have hp:plc14 x r acc=8:=Xt2 (by rw[HAL.out];exact hf) (by rw[hr.len,←heq];exact Xd6.1 ho);unfold do14;rw[if_neg (by rw[hl.len,hr.len];omega),hdat];dsimp only
  rw[if_pos (by rw[hp];decide),hp])
 have hf':¬(n:Int)<(need14 x:Nat):=by omega
 have HAN:=Hd ho;clear ho;subst heq;have HLL:=Hd hl.len;have HLR:=Hd hr.len;have hbw:=(Br w.heap.size w).alloc (Lr _) (.cells (insC p IA n c D dn dc).toArray 108);have HBW:=Hd hbw;have R5:=Hd (Row.new w 108 (insC p IA n c D dn dc));have HL:=Hd hl;have HR:=Hd hr;have HI:=Hd hi;have HB:=Hd hB;clear hbw hl hr hi;obtain⟨g5,hg5⟩:∃g,g=w.heap.size:=⟨_,rfl⟩;have HG5:Hid (w.heap.size=g5):=Hd hg5.symm;rw[←hg5]at R5;clear hg5;generalize hW:w.alloc (.cells (insC p IA n c D dn dc).toArray 108)=W at *;have HW:=Hd hW;clear hW;have HBY:Hid (∀(V:World),Below w.heap.size w V→Calls Tryd.prog 64 #[.slice IA n c,.int .i64 ln] V fun e w'=>e=.returned (.bool true)∧Below V.heap.size V w'):=Hd fun V hb=>by
  have:=Xef IA n c B ln acc V (HI.out.aSees.below (hb.mono HB.out)) (Lq HB.out hb.size) HI.out.ab hn hln;rwa [HAN.out]at this
 go_enter Tryd.func61,Tryd.ntmps61
 go_upto_region 1 with fail
 try rw[HG5.out]
 rw[HW.out];clear HW;have c52:W.cell? ⟨g5,2,none⟩=some (.slice D dn dc):=R5.out.cell 2;have HRD:=Hd (Xfz D dn dc B dat W (HI.out.dSees.below (HBW.out.mono HB.out)) (Lq HB.out HBW.out.size) HI.out.dc.1 HI.out.dc.2 HI.out.db);go_upto_region 3 with fail
 go_wp2_with fail;clear c52;refine HRD.out.mono ?_;rintro e w1 ⟨rfl,hyl,hb1⟩;have B1:=Hd (HBW.out.trans (hb1.mono HBW.out.size));have R51:=Hd (R5.out.below hb1 R5.out.lt);have HY:=Hd hyl;clear hb1 hyl HRD HBW R5;rw[HOK.out];rw[HYX.out];rw[HYX.out]at HY;go_upto_region 4 with(first
  | ((with_reducible show wpList _ _ _ (⟨some 9,_,_,_,_,_⟩::_) _ _);go_must(refine Xa2 rfl 165 rfl (askC ask0) Xb1 ?_))
  | ((with_reducible show wpList _ _ _ (⟨none,Op.store 165 _ _,_,_,_,_⟩::_) _ _);go_must(refine Xa6 rfl 165 (.tmp 9) (.tmp 24) rfl (askC x) (Xa7 HY.out) (Xba _) ((show(askC ask0).toArray.size=35 from rfl).trans (Xaq HY.out).symm) ?_ ?_ ?_;go_simp;go_simp;intro w2 hr2 hb2 hz2)))
 obtain⟨g9,hg9⟩:∃g,g=w1.heap.size:=⟨_,rfl⟩;have P2:Hid (DOs w w2 g5 w1.heap.size (insC p IA n c D dn dc) x):=Hd ⟨B1.out.trans (hb2.mono B1.out.size),R51.out.below hb2 R51.out.lt,hr2,⟨Nat.le_of_eq HG5.out,R51.out.lt⟩⟩;rw[←hg9]at P2 ⊢;clear hr2 hb2 hz2 hg9 B1 R51 HG5;go_upto_region 6 with fail
 refine wp_region_held_drew (S:=(fun V=>DOs w V g5 g9 (insC p IA n c D dn dc) x)) (by kernel_rfl) P2.out.drew (fun _=>?_);refine Tk 0 rfl ?_ P2.out.drew ?_ ⟨?_,rfl⟩
 ·intro w hw;(try dsimp only at hw);go_simp;try with_reducible rfl
 try simp only[nm]
 refine Tk 1 rfl ?_ P2.out.drew ?_ ⟨?_,rfl⟩
 ·intro w hw;try dsimp only at hw
  have c51:w.cell? ⟨g5,1,none⟩=some (.slice IA n c):=hw.r5.cell 1;go_simp;try with_reducible rfl
 try simp only[nm]
 refine Tk 2 rfl ?_ P2.out.drew ?_ ⟨?_,rfl⟩
 ·intro w hw;(try dsimp only at hw);go_simp;try with_reducible rfl
 try simp only[nm]
 refine Tl 3 (v:=.agg (askC x).toArray) rfl (Or.inl ⟨by rfl,fun wz hwz=>Xa4 wz 165 (.tmp 9) rfl ⟨g9,0,none⟩ (askC x) _ Tryd.underlying165 rfl (Xa7 HY.out) (fun j u hu=>by rw[Xac,Nat.zero_add];exact(hwz.r9.cell j).trans hu) (by go_simp)⟩) P2.out.drew ?_;try simp only[nm]
 refine Rl 4 rfl fun K hK=>?_
 go_simp;refine(Xdx x _).mono ?_;rintro e w3 ⟨rfl,hb3⟩;have P3:=Hd (P2.out.drew.below hb3);clear hb3;refine hK.out _ _ P3.out ?_;clear hK K P2;try simp only[nm]
 refine Tk 5 rfl ?_ P3.out ?_ ⟨?_,rfl⟩
 ·intro w hw;(try dsimp only at hw);go_simp;try with_reducible rfl
 try simp only[nm]
 refine Tk 6 rfl ?_ P3.out ?_ ⟨?_,rfl⟩
 ·intro w hw;(try dsimp only at hw);go_simp;try with_reducible rfl
 try simp only[nm]
 refine Tk 7 rfl ?_ P3.out ?_ ⟨?_,rfl⟩
 ·intro w hw;(try dsimp only at hw);go_simp;try with_reducible rfl
 try simp only[nm]
 refine Tk 8 rfl ?_ P3.out ?_ ⟨?_,rfl⟩
 ·intro w hw;try dsimp only at hw
  have c51:w.cell? ⟨g5,1,none⟩=some (.slice IA n c):=hw.r5.cell 1;go_simp;try with_reducible rfl
 try simp only[nm]
 refine Tk 9 rfl ?_ P3.out ?_ ⟨?_,rfl⟩
 ·intro w hw;(try dsimp only at hw);go_simp;try with_reducible rfl
 try simp only[nm]
 refine Tk 10 rfl ?_ P3.out ?_ ⟨?_,rfl⟩
 ·intro w hw;(try dsimp only at hw);go_simp;try with_reducible rfl
 try simp only[nm]
 refine Rl 11 rfl fun K hK=>?_
 go_simp;refine(HBY.out _ P3.out.b).mono ?_;rintro e w4 ⟨rfl,hb4⟩;have P4:=Hd (P3.out.below hb4);clear hb4;refine hK.out _ _ P4.out ?_;clear hK K P3;try simp only[nm]
 refine Tk 12 rfl ?_ P4.out ?_ ⟨?_,rfl⟩
 ·intro w hw;(try dsimp only at hw);go_simp;try with_reducible rfl
 try simp only[nm]
 refine wpAnyH_done (by kernel_rfl) ?_ _;go_wp2_with fail;go_ret3
 exact Xdi HD.out P4.out.b
theorem Xqa(l:List LAcc)(r:List LRole)(p:Int)(IA:Option Addr)(n c:Nat)(D:Option Addr)(dn dc:Nat)(acc dat:List Int)(LA:Option Addr)(ln lc:Nat)(RA:Option Addr)(rn rc:Nat)(B:Nat)(w:World)
 (hl:AccsIn w B LA ln l) (hlc:ln≤lc) (hr:RolesIn w B RA rn r) (hi:InsAt14 w B p IA n c D dn dc acc dat) (hB:B≤w.heap.size) (hn:n≤100000) (hln:ln≤100000) (hrn:rn≤100000) (heq:ln=rn) (x:LAsk) (hdat:dat14 dat=some x) (hf:¬n<need14 x) (ho:acc.any (byd14 ln)=false) (hp:plc14 x r acc≠0) :
 Calls Tryd.prog 61 #[.slice LA ln lc,.slice RA rn rc,.agg (insC p IA n c D dn dc).toArray] w (DoDone w (do14 l r acc dat)):=by
 have HAO:=Hd (Xbt hi.db hdat);have HOK:Hid ((rd14 dat).ok=true):=Hd (by rw[(Xbn dat).1,hdat];rfl);have HYX:Hid ((rd14 dat).y=x):=Hd ((Xbn dat).2 x hdat);have HAL:Hid (acc.length=n):=Hd (by have:=hi.aSees.len;rwa [bL]at this);have HD:Hid (do14 l r acc dat=bad14 (plc14 x r acc)):=Hd (by unfold do14;rw[if_neg (by rw[hl.len,hr.len];omega),hdat];dsimp only;rw[if_pos hp]);have hf':¬(n:Int)<(need14 x:Nat):=by omega
 have HAN:Hid (acc.any (byd14 ln)=false):=Hd ho;have HLT:Hid (∀z ∈ acc,z<(ln:Int)):=Hd fun z hz=>by
  by_cases h:z<(ln:Int)
  ·exact h
  ·exact absurd (Xd6.2 ⟨z,hz,Int.not_lt.1 h⟩:acc.any (byd14 ln)=true) (by rw[ho];simp)
 clear ho;subst heq;have HLL:=Hd hl.len;have HLR:=Hd hr.len;have hbw:=(Br w.heap.size w).alloc (Lr _) (.cells (insC p IA n c D dn dc).toArray 108);have HBW:=Hd hbw;have R5:=Hd (Row.new w 108 (insC p IA n c D dn dc));have HL:=Hd hl;have HR:=Hd hr;have HI:=Hd hi;have HB:=Hd hB;clear hbw hl hr hi;obtain⟨g5,hg5⟩:∃g,g=w.heap.size:=⟨_,rfl⟩;have HG5:Hid (w.heap.size=g5):=Hd hg5.symm;rw[←hg5]at R5;clear hg5;generalize hW:w.alloc (.cells (insC p IA n c D dn dc).toArray 108)=W at *;have HW:=Hd hW;clear hW;have HBY:Hid (∀(V:World),Below w.heap.size w V→Calls Tryd.prog 64 #[.slice IA n c,.int .i64 ln] V fun e w'=>e=.returned (.bool false)∧Below V.heap.size V w'):=Hd fun V hb=>by
  have:=Xef IA n c B ln acc V (HI.out.aSees.below (hb.mono HB.out)) (Lq HB.out hb.size) HI.out.ab hn hln;rwa [HAN.out]at this
 have HALW:Hid (∀(V:World),Below w.heap.size w V→Calls Tryd.prog 65 #[.agg (askC x).toArray,.slice RA ln rc,.slice IA n c] V fun e w'=>e=.returned (.int .i64 (plc14 x r acc))∧Below V.heap.size V w'):=Hd fun V hb=>by
  have:=Xdp x HAO.out IA n c acc RA ln rc r B V (HI.out.aSees.below (hb.mono HB.out)) HI.out.ab (HR.out.below (hb.mono HB.out)) (Lq HB.out hb.size) hn hln (by omega) HLT.out;exact this
 obtain⟨v,hv⟩:∃v,v=plc14 x r acc:=⟨_,rfl⟩;rw[←hv]at hp HALW HD;clear hv;have hp1:(v==0)=false:=by simpa using hp
 have hp2:(v != 0)=true:=by simpa using hp
 go_enter Tryd.func61,Tryd.ntmps61
 go_upto_region 1 with fail
 try rw[HG5.out]
 rw[HW.out];clear HW;have c52:W.cell? ⟨g5,2,none⟩=some (.slice D dn dc):=R5.out.cell 2;have HRD:=Hd (Xfz D dn dc B dat W (HI.out.dSees.below (HBW.out.mono HB.out)) (Lq HB.out HBW.out.size) HI.out.dc.1 HI.out.dc.2 HI.out.db);go_upto_region 3 with fail
 go_wp2_with fail;clear c52;refine HRD.out.mono ?_;rintro e w1 ⟨rfl,hyl,hb1⟩;have B1:=Hd (HBW.out.trans (hb1.mono HBW.out.size));have R51:=Hd (R5.out.below hb1 R5.out.lt);have HY:=Hd hyl;clear hb1 hyl HRD HBW R5;rw[HOK.out];rw[HYX.out];rw[HYX.out]at HY;go_upto_region 4 with(first
  | ((with_reducible show wpList _ _ _ (⟨some 9,_,_,_,_,_⟩::_) _ _);go_must(refine Xa2 rfl 165 rfl (askC ask0) Xb1 ?_))
  | ((with_reducible show wpList _ _ _ (⟨none,Op.store 165 _ _,_,_,_,_⟩::_) _ _);go_must(refine Xa6 rfl 165 (.tmp 9) (.tmp 24) rfl (askC x) (Xa7 HY.out) (Xba _) ((show(askC ask0).toArray.size=35 from rfl).trans (Xaq HY.out).symm) ?_ ?_ ?_;go_simp;go_simp;intro w2 hr2 hb2 hz2)))
 obtain⟨g9,hg9⟩:∃g,g=w1.heap.size:=⟨_,rfl⟩;have P2:Hid (DOs w w2 g5 w1.heap.size (insC p IA n c D dn dc) x):=Hd ⟨B1.out.trans (hb2.mono B1.out.size),R51.out.below hb2 R51.out.lt,hr2,⟨Nat.le_of_eq HG5.out,R51.out.lt⟩⟩;rw[←hg9]at P2 ⊢;clear hr2 hb2 hz2 hg9 B1 R51 HG5;go_upto_region 6 with fail
 refine wp_region_held_drew (S:=(fun V=>DOs w V g5 g9 (insC p IA n c D dn dc) x)) (by kernel_rfl) P2.out.drew (fun _=>?_);refine Tk 0 rfl ?_ P2.out.drew ?_ ⟨?_,rfl⟩
 ·intro w hw;(try dsimp only at hw);go_simp;try with_reducible rfl
 try simp only[nm]
 refine Tk 1 rfl ?_ P2.out.drew ?_ ⟨?_,rfl⟩
 ·intro w hw;try dsimp only at hw
  have c51:w.cell? ⟨g5,1,none⟩=some (.slice IA n c):=hw.r5.cell 1;go_simp;try with_reducible rfl
 try simp only[nm]
 refine Tk 2 rfl ?_ P2.out.drew ?_ ⟨?_,rfl⟩
 ·intro w hw;(try dsimp only at hw);go_simp;try with_reducible rfl
 try simp only[nm]
 refine Tl 3 (v:=.agg (askC x).toArray) rfl (Or.inl ⟨by rfl,fun wz hwz=>Xa4 wz 165 (.tmp 9) rfl ⟨g9,0,none⟩ (askC x) _ Tryd.underlying165 rfl (Xa7 HY.out) (fun j u hu=>by rw[Xac,Nat.zero_add];exact(hwz.r9.cell j).trans hu) (by go_simp)⟩) P2.out.drew ?_;try simp only[nm]
 refine Rl 4 rfl fun K hK=>?_
 go_simp;refine(Xdx x _).mono ?_;rintro e w3 ⟨rfl,hb3⟩;have P3:=Hd (P2.out.drew.below hb3);clear hb3;refine hK.out _ _ P3.out ?_;clear hK K P2;try simp only[nm]
 refine Tk 5 rfl ?_ P3.out ?_ ⟨?_,rfl⟩
 ·intro w hw;(try dsimp only at hw);go_simp;try with_reducible rfl
 try simp only[nm]
 refine Tk 6 rfl ?_ P3.out ?_ ⟨?_,rfl⟩
 ·intro w hw;(try dsimp only at hw);go_simp;try with_reducible rfl
 try simp only[nm]
 refine Tk 7 rfl ?_ P3.out ?_ ⟨?_,rfl⟩
 ·intro w hw;(try dsimp only at hw);go_simp;try with_reducible rfl
 try simp only[nm]
 refine Tk 8 rfl ?_ P3.out ?_ ⟨?_,rfl⟩
 ·intro w hw;try dsimp only at hw
  have c51:w.cell? ⟨g5,1,none⟩=some (.slice IA n c):=hw.r5.cell 1;go_simp;try with_reducible rfl
 try simp only[nm]
 refine Tk 9 rfl ?_ P3.out ?_ ⟨?_,rfl⟩
 ·intro w hw;(try dsimp only at hw);go_simp;try with_reducible rfl
 try simp only[nm]
 refine Tk 10 rfl ?_ P3.out ?_ ⟨?_,rfl⟩
 ·intro w hw;(try dsimp only at hw);go_simp;try with_reducible rfl
 try simp only[nm]
 refine Rl 11 rfl fun K hK=>?_
 go_simp;refine(HBY.out _ P3.out.b).mono ?_;rintro e w4 ⟨rfl,hb4⟩;have P4:=Hd (P3.out.below hb4);clear hb4;refine hK.out _ _ P4.out ?_;clear hK K P3;try simp only[nm]
 refine Tk 12 rfl ?_ P4.out ?_ ⟨?_,rfl⟩
 ·intro w hw;(try dsimp only at hw);go_simp;try with_reducible rfl
 try simp only[nm]
 refine wpAnyH_done (by kernel_rfl) ?_ _;have c51:w4.cell? ⟨g5,1,none⟩=some (.slice IA n c):=P4.out.r5.cell 1;go_upto_region 8 with fail
 go_wp2_with (first
  | ((with_reducible show wpList _ _ _ (⟨some 41,_,_,_,_,_⟩::_) _ _);go_must(refine Xa3 rfl 165 (.tmp 9) rfl g9 165 (askC x) _ Tryd.underlying165 rfl (Xa7 HY.out) P4.out.r9 ?_ ?_;go_simp)))
 clear c51;refine(HALW.out _ P4.out.b).mono ?_;rintro e w5 ⟨rfl,hb5⟩;have P5:=Hd (P4.out.below hb5);clear hb5 P4 HALW;go_wp2_with fail;go_ret3
 exact Xdi HD.out P5.out.b
theorem Xt4(l:List LAcc)(r:List LRole)(p:Int)(IA:Option Addr)(n c:Nat)(D:Option Addr)(dn dc:Nat)(acc dat:List Int)(LA:Option Addr)(ln lc:Nat)(RA:Option Addr)(rn rc:Nat)(B:Nat)(w:World)
 (hl:AccsIn w B LA ln l) (hlc:ln≤lc) (hr:RolesIn w B RA rn r) (hi:InsAt14 w B p IA n c D dn dc acc dat) (hB:B≤w.heap.size) (hn:n≤100000) (hln:ln≤100000) (hrn:rn≤100000) (heq:ln=rn) (x:LAsk) (hdat:dat14 dat=some x) (hf:¬n<need14 x) (ho:acc.any (byd14 ln)=false) (hp:plc14 x r acc=0) (a b:Nat) (ha:acc.getD 0 0=a) (hb:acc.getD (need14 x - 1) 0=b) (han:a<ln) (hbn:b<ln) (ht:x.tag=0) :
 Calls Tryd.prog 61 #[.slice LA ln lc,.slice RA rn rc,.agg (insC p IA n c D dn dc).toArray] w (DoDone w (do14 l r acc dat)):=by
 have HAO:=Hd (Xbt hi.db hdat);have HOK:Hid ((rd14 dat).ok=true):=Hd (by rw[(Xbn dat).1,hdat];rfl);have HYX:Hid ((rd14 dat).y=x):=Hd ((Xbn dat).2 x hdat);have HAL:Hid (acc.length=n):=Hd (by have:=hi.aSees.len;rwa [bL]at this);have HA:=Hd han;have HBN:=Hd hbn;have HD1:Hid (do14 l r acc dat=deed14 l x a b):=Hd (do_is (by rw[hl.len,hr.len];exact heq) hdat hp ha hb);have HDR:Hid (deed14 l x a b=make14 l x a b):=Hd (by rw[deed14,if_pos ht]);have HFL:=Hd (fun h=>Xd9 (l:=l) (x:=x) (a:=a) (b:=b) h);have HDN:=Hd (fun h=>Xgd (l:=l) (a:=a) (b:=b) (Xbt hi.db hdat) h);have hf':¬(n:Int)<(need14 x:Nat):=by omega
 have HPL:=Hd hp;have HT:=Hd ht;have HND:Hid (need14 x=2):=Hd (Xdd (.inl ht));have hnd2:2≤n:=by have:=HND.out;omega
 have HAN:Hid (acc.any (byd14 ln)=false):=Hd ho;have HLT:Hid (∀z ∈ acc,z<(ln:Int)):=Hd fun z hz=>by
  by_cases h:z<(ln:Int)
  ·exact h
  ·exact absurd (Xd6.2 ⟨z,hz,Int.not_lt.1 h⟩:acc.any (byd14 ln)=true) (by rw[ho];simp)
 clear ho;subst heq;have HLL:=Hd hl.len;have HLR:=Hd hr.len;have hbw:=(Br w.heap.size w).alloc (Lr _) (.cells (insC p IA n c D dn dc).toArray 108);have HBW:=Hd hbw;have R5:=Hd (Row.new w 108 (insC p IA n c D dn dc));have HL:=Hd hl;have HR:=Hd hr;have HI:=Hd hi;have HB:=Hd hB;clear hbw hl hr hi;obtain⟨g5,hg5⟩:∃g,g=w.heap.size:=⟨_,rfl⟩;have HG5:Hid (w.heap.size=g5):=Hd hg5.symm;rw[←hg5]at R5;clear hg5;generalize hW:w.alloc (.cells (insC p IA n c D dn dc).toArray 108)=W at *;have HW:=Hd hW;clear hW;have HAA:Hid (acc.getD 0 0=a):=Hd ha;have HBB:Hid (acc.getD 1 0=b):=Hd (by rw[HND.out]at hb;exact hb);clear ha hb hp ht han hbn;have HBY:Hid (∀(V:World),Below w.heap.size w V→Calls Tryd.prog 64 #[.slice IA n c,.int .i64 ln] V fun e w'=>e=.returned (.bool false)∧Below V.heap.size V w'):=Hd fun V hb=>by
  have:=Xef IA n c B ln acc V (HI.out.aSees.below (hb.mono HB.out)) (Lq HB.out hb.size) HI.out.ab hn hln;rwa [HAN.out]at this
 have HALW:Hid (∀(V:World),Below w.heap.size w V→Calls Tryd.prog 65 #[.agg (askC x).toArray,.slice RA ln rc,.slice IA n c] V fun e w'=>e=.returned (.int .i64 0)∧Below V.heap.size V w'):=Hd fun V hb=>by
  have:=Xdp x HAO.out IA n c acc RA ln rc r B V (HI.out.aSees.below (hb.mono HB.out)) HI.out.ab (HR.out.below (hb.mono HB.out)) (Lq HB.out hb.size) hn hln (by omega) HLT.out;rw[HPL.out]at this;exact this
 obtain⟨ia,d0w,hal256⟩:∃ia,IA=some ia∧(a:Int)<256:=by
  obtain⟨k,hk,hk2,hA⟩:=at14 (i:=0) HI.out.aSees HI.out.ab HR.out (by omega) HLT.out;obtain⟨⟨ia,_,e,_⟩,_⟩:=hA;rw[HAA.out]at hk;exact⟨ia,e,by omega⟩
 subst d0w;have HD0:Hid (∀V,Below w.heap.size w V→V.cell? ia=some (.int .u8 a)):=Hd fun V hb=>by
  obtain⟨k,hk,hk2,hA⟩:=at14 (i:=0) (HI.out.aSees.below (hb.mono HB.out)) HI.out.ab (HR.out.below (hb.mono HB.out)) (by omega) HLT.out;obtain⟨⟨ia',_,e,_,d,_⟩,_⟩:=hA;cases e
  rw[HAA.out]at hk;have:k=a:=by omega
  subst this;simpa [Addr.add]using d
 have HD1':Hid (∀V,Below w.heap.size w V→V.cell? ⟨ia.block,ia.off+1,none⟩=some (.int .u8 b)):=Hd fun V hb=>by
  obtain⟨k,hk,hk2,hA⟩:=at14 (i:=1) (HI.out.aSees.below (hb.mono HB.out)) HI.out.ab (HR.out.below (hb.mono HB.out)) (by omega) HLT.out;obtain⟨⟨ia',_,e,_,d,_⟩,_⟩:=hA;cases e
  rw[HBB.out]at hk;have:k=b:=by omega
  subst this;simpa [Addr.add]using d
 have hbl256:(b:Int)<256:=by
  obtain⟨k,hk,hk2,hA⟩:=at14 (i:=1) HI.out.aSees HI.out.ab HR.out (by omega) HLT.out;rw[HBB.out]at hk;omega
 obtain⟨la,hla⟩:∃la,LA=some la:=by
  obtain⟨la,_,e,_⟩:=HL.out.get (k:=a) HA.out;exact⟨la,e⟩
 subst hla;have HLN0:Hid (0<ln):=Hd (by have:=HA.out;omega);go_enter Tryd.func61,Tryd.ntmps61
 go_upto_region 1 with fail
 try rw[HG5.out]
 rw[HW.out];clear HW;have c52:W.cell? ⟨g5,2,none⟩=some (.slice D dn dc):=R5.out.cell 2;have HRD:=Hd (Xfz D dn dc B dat W (HI.out.dSees.below (HBW.out.mono HB.out)) (Lq HB.out HBW.out.size) HI.out.dc.1 HI.out.dc.2 HI.out.db);go_upto_region 3 with fail
 go_wp2_with fail;clear c52;refine HRD.out.mono ?_;rintro e w1 ⟨rfl,hyl,hb1⟩;have B1:=Hd (HBW.out.trans (hb1.mono HBW.out.size));have R51:=Hd (R5.out.below hb1 R5.out.lt);have HY:=Hd hyl;clear hb1 hyl HRD HBW R5;rw[HOK.out];rw[HYX.out];rw[HYX.out]at HY;go_upto_region 4 with(first
  | ((with_reducible show wpList _ _ _ (⟨some 9,_,_,_,_,_⟩::_) _ _);go_must(refine Xa2 rfl 165 rfl (askC ask0) Xb1 ?_))
  | ((with_reducible show wpList _ _ _ (⟨none,Op.store 165 _ _,_,_,_,_⟩::_) _ _);go_must(refine Xa6 rfl 165 (.tmp 9) (.tmp 24) rfl (askC x) (Xa7 HY.out) (Xba _) ((show(askC ask0).toArray.size=35 from rfl).trans (Xaq HY.out).symm) ?_ ?_ ?_;go_simp;go_simp;intro w2 hr2 hb2 hz2)))
 obtain⟨g9,hg9⟩:∃g,g=w1.heap.size:=⟨_,rfl⟩;have P2:Hid (DOs w w2 g5 w1.heap.size (insC p (some ia) n c D dn dc) x):=Hd ⟨B1.out.trans (hb2.mono B1.out.size),R51.out.below hb2 R51.out.lt,hr2,⟨Nat.le_of_eq HG5.out,R51.out.lt⟩⟩;rw[←hg9]at P2 ⊢;clear hr2 hb2 hz2 hg9 B1 R51 HG5;go_upto_region 6 with fail
 refine wp_region_held_drew (S:=(fun V=>DOs w V g5 g9 (insC p (some ia) n c D dn dc) x)) (by kernel_rfl) P2.out.drew (fun _=>?_);refine Tk 0 rfl ?_ P2.out.drew ?_ ⟨?_,rfl⟩
 ·intro w hw;(try dsimp only at hw);go_simp;try with_reducible rfl
 try simp only[nm]
 refine Tk 1 rfl ?_ P2.out.drew ?_ ⟨?_,rfl⟩
 ·intro w hw;try dsimp only at hw
  have c51:w.cell? ⟨g5,1,none⟩=some (.slice (some ia) n c):=hw.r5.cell 1;go_simp;try with_reducible rfl
 try simp only[nm]
 refine Tk 2 rfl ?_ P2.out.drew ?_ ⟨?_,rfl⟩
 ·intro w hw;(try dsimp only at hw);go_simp;try with_reducible rfl
 try simp only[nm]
 refine Tl 3 (v:=.agg (askC x).toArray) rfl (Or.inl ⟨by rfl,fun wz hwz=>Xa4 wz 165 (.tmp 9) rfl ⟨g9,0,none⟩ (askC x) _ Tryd.underlying165 rfl (Xa7 HY.out) (fun j u hu=>by rw[Xac,Nat.zero_add];exact(hwz.r9.cell j).trans hu) (by go_simp)⟩) P2.out.drew ?_;try simp only[nm]
 refine Rl 4 rfl fun K hK=>?_
 go_simp;refine(Xdx x _).mono ?_;rintro e w3 ⟨rfl,hb3⟩;have P3:=Hd (P2.out.drew.below hb3);clear hb3;refine hK.out _ _ P3.out ?_;clear hK K P2;try simp only[nm]
 refine Tk 5 rfl ?_ P3.out ?_ ⟨?_,rfl⟩
 ·intro w hw;(try dsimp only at hw);go_simp;try with_reducible rfl
 try simp only[nm]
 refine Tk 6 rfl ?_ P3.out ?_ ⟨?_,rfl⟩
 ·intro w hw;(try dsimp only at hw);go_simp;try with_reducible rfl
 try simp only[nm]
 refine Tk 7 rfl ?_ P3.out ?_ ⟨?_,rfl⟩
 ·intro w hw;(try dsimp only at hw);go_simp;try with_reducible rfl
 try simp only[nm]
 refine Tk 8 rfl ?_ P3.out ?_ ⟨?_,rfl⟩
 ·intro w hw;try dsimp only at hw
  have c51:w.cell? ⟨g5,1,none⟩=some (.slice (some ia) n c):=hw.r5.cell 1;go_simp;try with_reducible rfl
 try simp only[nm]
 refine Tk 9 rfl ?_ P3.out ?_ ⟨?_,rfl⟩
 ·intro w hw;(try dsimp only at hw);go_simp;try with_reducible rfl
 try simp only[nm]
 refine Tk 10 rfl ?_ P3.out ?_ ⟨?_,rfl⟩
 ·intro w hw;(try dsimp only at hw);go_simp;try with_reducible rfl
 try simp only[nm]
 refine Rl 11 rfl fun K hK=>?_
 go_simp;refine(HBY.out _ P3.out.b).mono ?_;rintro e w4 ⟨rfl,hb4⟩;have P4:=Hd (P3.out.below hb4);clear hb4;refine hK.out _ _ P4.out ?_;clear hK K P3;try simp only[nm]
 refine Tk 12 rfl ?_ P4.out ?_ ⟨?_,rfl⟩
 ·intro w hw;(try dsimp only at hw);go_simp;try with_reducible rfl
 try simp only[nm]
 refine wpAnyH_done (by kernel_rfl) ?_ _;have c51:w4.cell? ⟨g5,1,none⟩=some (.slice (some ia) n c):=P4.out.r5.cell 1;go_upto_region 8 with fail
 go_wp2_with (first
  | ((with_reducible show wpList _ _ _ (⟨some 41,_,_,_,_,_⟩::_) _ _);go_must(refine Xa3 rfl 165 (.tmp 9) rfl g9 165 (askC x) _ Tryd.underlying165 rfl (Xa7 HY.out) P4.out.r9 ?_ ?_;go_simp)))
 clear c51;refine(HALW.out _ P4.out.b).mono ?_;rintro e w5 ⟨rfl,hb5⟩;have P5:=Hd (P4.out.below hb5);clear hb5 P4 HALW;have HCL:=Hd (Xip la ln lc B l w5 (HL.out.below (P5.out.b.mono HB.out)) (Lq HB.out P5.out.b.size) hln HLN0.out);go_wp2_with fail;refine HCL.out.mono ?_;rintro e w6 ⟨g,cap,rest,rfl,hO,hb6⟩;have P6:=Hd (P5.out.below hb6);have HO6:=Hd hO;have HG6:Hid (g9<g):=Hd (by have:=P5.out.r9.lt;have:=hO.lo;omega);have HW5:=Hd P5.out.b.size;clear hb6 HCL P5 hO;go_wp2_with fail;refine(Xmd _ ln cap _ HO6.out.room.1 HO6.out.room.2).mono ?_;rintro e w7 ⟨rfl,rfl⟩;have HO7:=Hd (HO6.out.low HW5.out);clear HO6 HW5;have hla1:(a:Int)<ln:=by have:=HA.out;omega
 have hn0:(0:Int)<n:=by omega
 have hla2:a<ln:=HA.out;have hn02:0<n:=by omega
 have HNN:=Hd hnd2;clear hnd2 hf hf';go_upto_region 12 with fail
 refine wp_region_held_drew (S:=(fun V=>DOs w V g5 g9 (insC p (some ia) n c D dn dc) x)) (by kernel_rfl) P6.out.drew (fun _=>?_);refine Tl 0 (v:=.agg (askC x).toArray) rfl (Or.inl ⟨by rfl,fun wz hwz=>Xa4 wz 165 (.tmp 9) rfl ⟨g9,0,none⟩ (askC x) _ Tryd.underlying165 rfl (Xa7 HY.out) (fun j u hu=>by rw[Xac,Nat.zero_add];exact(hwz.r9.cell j).trans hu) (by go_simp)⟩) P6.out.drew ?_;try simp only[nm]
 refine Tk 1 rfl ?_ P6.out.drew ?_ ⟨?_,rfl⟩
 ·intro w hw;(try dsimp only at hw);go_simp;try with_reducible rfl
 try simp only[nm]
 refine Tk 2 rfl ?_ P6.out.drew ?_ ⟨?_,rfl⟩
 ·intro w hw;(try dsimp only at hw);go_simp;try with_reducible rfl
 try simp only[nm]
 refine Tk 3 rfl ?_ P6.out.drew ?_ ⟨?_,rfl⟩
 ·intro w hw;try dsimp only at hw
  have c51:w.cell? ⟨g5,1,none⟩=some (.slice (some ia) n c):=hw.r5.cell 1;go_simp;try with_reducible rfl
 try simp only[nm]
 refine Tk 4 rfl ?_ P6.out.drew ?_ ⟨?_,rfl⟩
 ·intro w hw;(try dsimp only at hw);go_simp;try with_reducible rfl
 try simp only[nm]
 refine Tk 5 rfl ?_ P6.out.drew ?_ ⟨?_,rfl⟩
 ·intro w hw;try dsimp only at hw
  have d0:=HD0.out _ hw.b;go_simp;try with_reducible rfl
 try simp only[nm]
 refine Tk 6 rfl ?_ P6.out.drew ?_ ⟨?_,rfl⟩
 ·intro w hw;(try dsimp only at hw);go_simp;try with_reducible rfl
 try simp only[nm]
 refine Tl 7 (v:=.agg (wrkC x (.pointer (some ⟨g,a*34,none⟩)) (.pointer none)).toArray) rfl (Or.inl ⟨by rfl,fun wz hwz=>Xao wz _ _ _ rfl (by simp only[List.map_toArray,List.map_cons,List.map_nil];exact Xdg HY.out _)⟩) P6.out.drew ?_;try simp only[nm]
 refine Rl 8 rfl fun K hK=>?_
 refine Xbm 174 rfl (wrkC ask0 (.pointer none) (.pointer none)) Xee ?_;obtain⟨h,hh⟩:∃h,h=w6.drew.heap.size:=⟨_,rfl⟩;have hba:=(Br w6.drew.heap.size w6.drew).alloc (Lr _) (.cells (wrkC ask0 (.pointer none) (.pointer none)).toArray 174);have P7:=Hd (P6.out.drew.below hba);have RH:=Hd (Row.new w6.drew 174 (wrkC ask0 (.pointer none) (.pointer none)));have HO8:=Hd ((show OutAt w6.drew w.heap.size g cap ln rest l from⟨HO7.out.row.drew,HO7.out.lo,HO7.out.len,HO7.out.room,HO7.out.all,HO7.out.ok⟩).below hba);have HH9:Hid (g9<w6.drew.heap.size∧w6.drew.heap.size≠g):=Hd ⟨P6.out.r9.lt,Ne.symm (Nat.ne_of_lt HO7.out.row.lt)⟩;rw[←hh]at RH HH9 ⊢;clear hh hba;generalize w6.drew.alloc (.cells (wrkC ask0 (.pointer none) (.pointer none)).toArray 174)=w7 at *;refine hK.out _ _ P7.out ?_;clear hK K P6 HO7;try simp only[nm]
 refine Rl 9 rfl fun K hK=>?_
 refine Xal 174 (.tmp 13) (.tmp 59) rfl h 174 0 (wrkC ask0 (.pointer none) (.pointer none)) (wrkC x (.pointer (some ⟨g,a*34,none⟩)) (.pointer none)) RH.out (Xek HY.out _ _) (by rw[Xbr HY.out,Xbr Xbc.1];decide) (Xf3 rfl rfl) (by go_simp) (by go_simp) (fun w8 hr8 ht8=>?_);rw[List.take_zero,List.nil_append,Nat.zero_add,List.drop_of_length_le (by rw[Xbr HY.out,Xbr Xbc.1];decide),List.append_nil]at hr8;have P8:Hid (DQ w w8 g5 g9 g h cap ln rest x (.pointer (some ⟨g,a*34,none⟩)) (.pointer none) l (insC p (some ia) n c D dn dc)):=Hd ⟨P7.out.but (.of_turned ht8) HH9.out.1,⟨ht8.row HO8.out.row (Ne.symm HH9.out.2),HO8.out.lo,HO8.out.len,HO8.out.room,HO8.out.all,HO8.out.ok⟩,hr8,⟨HG6.out,HH9.out.1,HH9.out.2⟩⟩;clear hr8 ht8 P7 RH HO8;refine hK.out _ _ P8.out.p ?_;clear hK K;try simp only[Act.put]
 refine wpAnyH_done (by kernel_rfl) ?_ _;have HAS:=Hd (Xdx x w8);rw[HND.out]at HAS;go_upto_region 13 with fail
 go_wp2_with (first
  | ((with_reducible show wpList _ _ _ (⟨some 60,_,_,_,_,_⟩::_) _ _);go_must(refine Xa3 rfl 165 (.tmp 9) rfl g9 165 (askC x) _ Tryd.underlying165 rfl (Xa7 HY.out) P8.out.p.r9 ?_ ?_;go_simp)))
 refine HAS.out.mono ?_;rintro e w9 ⟨rfl,hb9⟩;have PXq:=Hd (P8.out.below hb9);clear hb9 HAS P8;have c51:w9.cell? ⟨g5,1,none⟩=some (.slice (some ia) n c):=PXq.out.p.r5.cell 1;have d1:=HD1'.out _ PXq.out.p.b;have c36:w9.cell? ⟨h,36,none⟩=some (.pointer none):=(PXq.out.rh.cell 36).trans (wrk_b HY.out _ _);have f36:=PXq.out.rh.frozen 36;have hlb1:(b:Int)<ln:=by have:=HBN.out;omega
 have hlb2:b<ln:=HBN.out;have hn12:1<n:=by have:=HNN.out;omega
 have hn1:(1:Int)<n:=by have:=HNN.out;omega
 have P9:=Hd (PXq.out.second HY.out (.pointer (some ⟨g,b*34,none⟩)));go_upto_region 15 with fail
 clear c51 d1 c36 f36 PXq;generalize w9.setCell ⟨h,36,none⟩ (.pointer (some ⟨g,b*34,none⟩))=wd at *;refine wp_region_held_drew (S:=(fun V=>∃out,DQ w V g5 g9 g h cap ln rest x (.pointer (some ⟨g,a*34,none⟩)) (.pointer (some ⟨g,b*34,none⟩)) out (insC p (some ia) n c D dn dc))) (by kernel_rfl) ⟨l,P9.out.drew⟩ (fun _=>?_);refine Tk 1 rfl ?_ ⟨l,P9.out.drew⟩ ?_ ⟨?_,rfl⟩
 ·intro w hw;(try dsimp only at hw);go_simp;try with_reducible rfl
 try simp only[nm]
 refine Tk 2 rfl ?_ ⟨l,P9.out.drew⟩ ?_ ⟨?_,rfl⟩
 ·intro w hw;try dsimp only at hw
  obtain⟨_,hw⟩:=hw;have c90:w.cell? ⟨g9,0,none⟩=some (.int .u64 0):=(hw.p.r9.cell 0).trans (by rw[←HT.out];rfl);go_simp;try with_reducible rfl
 try simp only[nm]
 refine Rl 0 rfl fun K hK=>?_
 go_simp;refine(Xi2 _).mono ?_;rintro e we ⟨rfl,hm,hbe⟩;have PE:=Hd (P9.out.drew.below hbe);have HLK:=Hd (Xdb hm (t:=0) (by decide));clear hm hbe P9;refine hK.out _ _ ⟨l,PE.out⟩ ?_;clear hK K;try simp only[nm]
 refine Rl 3 rfl fun K hK=>?_
 refine Xdj 176 (.tmp 70) (.tmp 72) rfl _ _ _ (by go_simp) (by go_simp) HLK.out ?_;clear HLK;refine hK.out _ _ ⟨l,PE.out⟩ ?_;clear hK K;try simp only[nm]
 refine Rl 4 rfl fun K hK=>?_
 go_simp;refine(Xqe w.heap.size g h cap ln rest x HAO.out a b l _ (PE.out.ds HY.out) HA.out HBN.out).mono ?_;rintro e wf ⟨rfl,out,hds,hRl⟩;have PF:=Hd (PE.out.deed hds);have HRL:=Hd hRl;clear hds hRl PE;refine hK.out _ _ ⟨out,PF.out⟩ ?_;clear hK K;try simp only[nm]
 refine Tk 5 rfl ?_ ⟨out,PF.out⟩ ?_ ⟨?_,rfl⟩
 ·intro w hw;(try dsimp only at hw);go_simp;try with_reducible rfl
 try simp only[nm]
 refine wpAnyH_done (by kernel_rfl) ?_ _;rw[←HDR.out]at HRL ⊢;by_cases he:(deed14 l x a b).e=0
 rotate_left
 ·have HB2:=Hd (HFL.out he);have he1:((deed14 l x a b).e==0)=false:=by simpa using he
  have he2:((deed14 l x a b).e != 0)=true:=by simpa using he
  generalize (deed14 l x a b).e=ee at *;go_wp2_with fail;go_ret3
  exact Xdi (HD1.out.trans HB2.out) PF.out.p.b
 have HN2:=Hd (HDN.out he);have HL2:=Hd (HRL.out he);have HE:=Hd he;rw[he];clear he HRL;have c92:wf.cell? ⟨g9,2,none⟩=some (.int .u64 x.space):=PF.out.p.r9.cell 2;go_upto_region 18 with fail
 go_quiet (fail)
 go_wp2_with fail;go_ret3
 exact Xff (L:=out) (n:=x.space) (HD1.out.trans (by rw[HL2.out,←HN2.out,←HE.out])) (PF.out.drewN _).outs (PF.out.drewN _).p.b
theorem Xtc(l:List LAcc)(r:List LRole)(p:Int)(IA:Option Addr)(n c:Nat)(D:Option Addr)(dn dc:Nat)(acc dat:List Int)(LA:Option Addr)(ln lc:Nat)(RA:Option Addr)(rn rc:Nat)(B:Nat)(w:World)
 (hl:AccsIn w B LA ln l) (hlc:ln≤lc) (hr:RolesIn w B RA rn r) (hi:InsAt14 w B p IA n c D dn dc acc dat) (hB:B≤w.heap.size) (hn:n≤100000) (hln:ln≤100000) (hrn:rn≤100000) (heq:ln=rn) (x:LAsk) (hdat:dat14 dat=some x) (hf:¬n<need14 x) (ho:acc.any (byd14 ln)=false) (hp:plc14 x r acc=0) (a b:Nat) (ha:acc.getD 0 0=a) (hb:acc.getD (need14 x - 1) 0=b) (han:a<ln) (hbn:b<ln) (ht:x.tag=1) :
 Calls Tryd.prog 61 #[.slice LA ln lc,.slice RA rn rc,.agg (insC p IA n c D dn dc).toArray] w (DoDone w (do14 l r acc dat)):=by
 have HAO:=Hd (Xbt hi.db hdat);have HOK:Hid ((rd14 dat).ok=true):=Hd (by rw[(Xbn dat).1,hdat];rfl);have HYX:Hid ((rd14 dat).y=x):=Hd ((Xbn dat).2 x hdat);have HAL:Hid (acc.length=n):=Hd (by have:=hi.aSees.len;rwa [bL]at this);have HA:=Hd han;have HBN:=Hd hbn;have HD1:Hid (do14 l r acc dat=deed14 l x a b):=Hd (do_is (by rw[hl.len,hr.len];exact heq) hdat hp ha hb);have HDR:Hid (deed14 l x a b=assign14 l x a):=Hd (by rw[deed14,if_neg (by rw[ht];decide),if_pos ht]);have HFL:=Hd (fun h=>Xd9 (l:=l) (x:=x) (a:=a) (b:=b) h);have HDN:=Hd (fun h=>Xgd (l:=l) (a:=a) (b:=b) (Xbt hi.db hdat) h);have hf':¬(n:Int)<(need14 x:Nat):=by omega
 have HPL:=Hd hp;have HT:=Hd ht;have HND:Hid (need14 x=1):=Hd (Xe6 (by unfold two14;rw[ht];decide));have hnd2:1≤n:=by have:=HND.out;omega
 have HAN:Hid (acc.any (byd14 ln)=false):=Hd ho;have HLT:Hid (∀z ∈ acc,z<(ln:Int)):=Hd fun z hz=>by
  by_cases h:z<(ln:Int)
  ·exact h
  ·exact absurd (Xd6.2 ⟨z,hz,Int.not_lt.1 h⟩:acc.any (byd14 ln)=true) (by rw[ho];simp)
 clear ho;subst heq;have HLL:=Hd hl.len;have HLR:=Hd hr.len;have hbw:=(Br w.heap.size w).alloc (Lr _) (.cells (insC p IA n c D dn dc).toArray 108);have HBW:=Hd hbw;have R5:=Hd (Row.new w 108 (insC p IA n c D dn dc));have HL:=Hd hl;have HR:=Hd hr;have HI:=Hd hi;have HB:=Hd hB;clear hbw hl hr hi;obtain⟨g5,hg5⟩:∃g,g=w.heap.size:=⟨_,rfl⟩;have HG5:Hid (w.heap.size=g5):=Hd hg5.symm;rw[←hg5]at R5;clear hg5;generalize hW:w.alloc (.cells (insC p IA n c D dn dc).toArray 108)=W at *;have HW:=Hd hW;clear hW;have HAA:Hid (acc.getD 0 0=a):=Hd ha;have HBB:Hid (acc.getD 0 0=b):=Hd (by rw[HND.out]at hb;exact hb);clear ha hb hp ht han hbn;have HBY:Hid (∀(V:World),Below w.heap.size w V→Calls Tryd.prog 64 #[.slice IA n c,.int .i64 ln] V fun e w'=>e=.returned (.bool false)∧Below V.heap.size V w'):=Hd fun V hb=>by
  have:=Xef IA n c B ln acc V (HI.out.aSees.below (hb.mono HB.out)) (Lq HB.out hb.size) HI.out.ab hn hln;rwa [HAN.out]at this
 have HALW:Hid (∀(V:World),Below w.heap.size w V→Calls Tryd.prog 65 #[.agg (askC x).toArray,.slice RA ln rc,.slice IA n c] V fun e w'=>e=.returned (.int .i64 0)∧Below V.heap.size V w'):=Hd fun V hb=>by
  have:=Xdp x HAO.out IA n c acc RA ln rc r B V (HI.out.aSees.below (hb.mono HB.out)) HI.out.ab (HR.out.below (hb.mono HB.out)) (Lq HB.out hb.size) hn hln (by omega) HLT.out;rw[HPL.out]at this;exact this
 obtain⟨ia,d0w,hal256⟩:∃ia,IA=some ia∧(a:Int)<256:=by
  obtain⟨k,hk,hk2,hA⟩:=at14 (i:=0) HI.out.aSees HI.out.ab HR.out (by omega) HLT.out;obtain⟨⟨ia,_,e,_⟩,_⟩:=hA;rw[HAA.out]at hk;exact⟨ia,e,by omega⟩
 subst d0w;have HD0:Hid (∀V,Below w.heap.size w V→V.cell? ia=some (.int .u8 a)):=Hd fun V hb=>by
  obtain⟨k,hk,hk2,hA⟩:=at14 (i:=0) (HI.out.aSees.below (hb.mono HB.out)) HI.out.ab (HR.out.below (hb.mono HB.out)) (by omega) HLT.out;obtain⟨⟨ia',_,e,_,d,_⟩,_⟩:=hA;cases e
  rw[HAA.out]at hk;have:k=a:=by omega
  subst this;simpa [Addr.add]using d
 obtain⟨la,hla⟩:∃la,LA=some la:=by
  obtain⟨la,_,e,_⟩:=HL.out.get (k:=a) HA.out;exact⟨la,e⟩
 subst hla;have HLN0:Hid (0<ln):=Hd (by have:=HA.out;omega);go_enter Tryd.func61,Tryd.ntmps61
 go_upto_region 1 with fail
 try rw[HG5.out]
 rw[HW.out];clear HW;have c52:W.cell? ⟨g5,2,none⟩=some (.slice D dn dc):=R5.out.cell 2;have HRD:=Hd (Xfz D dn dc B dat W (HI.out.dSees.below (HBW.out.mono HB.out)) (Lq HB.out HBW.out.size) HI.out.dc.1 HI.out.dc.2 HI.out.db);go_upto_region 3 with fail
 go_wp2_with fail;clear c52;refine HRD.out.mono ?_;rintro e w1 ⟨rfl,hyl,hb1⟩;have B1:=Hd (HBW.out.trans (hb1.mono HBW.out.size));have R51:=Hd (R5.out.below hb1 R5.out.lt);have HY:=Hd hyl;clear hb1 hyl HRD HBW R5;rw[HOK.out];rw[HYX.out];rw[HYX.out]at HY;go_upto_region 4 with(first
  | ((with_reducible show wpList _ _ _ (⟨some 9,_,_,_,_,_⟩::_) _ _);go_must(refine Xa2 rfl 165 rfl (askC ask0) Xb1 ?_))
  | ((with_reducible show wpList _ _ _ (⟨none,Op.store 165 _ _,_,_,_,_⟩::_) _ _);go_must(refine Xa6 rfl 165 (.tmp 9) (.tmp 24) rfl (askC x) (Xa7 HY.out) (Xba _) ((show(askC ask0).toArray.size=35 from rfl).trans (Xaq HY.out).symm) ?_ ?_ ?_;go_simp;go_simp;intro w2 hr2 hb2 hz2)))
 obtain⟨g9,hg9⟩:∃g,g=w1.heap.size:=⟨_,rfl⟩;have P2:Hid (DOs w w2 g5 w1.heap.size (insC p (some ia) n c D dn dc) x):=Hd ⟨B1.out.trans (hb2.mono B1.out.size),R51.out.below hb2 R51.out.lt,hr2,⟨Nat.le_of_eq HG5.out,R51.out.lt⟩⟩;rw[←hg9]at P2 ⊢;clear hr2 hb2 hz2 hg9 B1 R51 HG5;go_upto_region 6 with fail
 refine wp_region_held_drew (S:=(fun V=>DOs w V g5 g9 (insC p (some ia) n c D dn dc) x)) (by kernel_rfl) P2.out.drew (fun _=>?_);refine Tk 0 rfl ?_ P2.out.drew ?_ ⟨?_,rfl⟩
 ·intro w hw;(try dsimp only at hw);go_simp;try with_reducible rfl
 try simp only[nm]
 refine Tk 1 rfl ?_ P2.out.drew ?_ ⟨?_,rfl⟩
 ·intro w hw;try dsimp only at hw
  have c51:w.cell? ⟨g5,1,none⟩=some (.slice (some ia) n c):=hw.r5.cell 1;go_simp;try with_reducible rfl
 try simp only[nm]
 refine Tk 2 rfl ?_ P2.out.drew ?_ ⟨?_,rfl⟩
 ·intro w hw;(try dsimp only at hw);go_simp;try with_reducible rfl
 try simp only[nm]
 refine Tl 3 (v:=.agg (askC x).toArray) rfl (Or.inl ⟨by rfl,fun wz hwz=>Xa4 wz 165 (.tmp 9) rfl ⟨g9,0,none⟩ (askC x) _ Tryd.underlying165 rfl (Xa7 HY.out) (fun j u hu=>by rw[Xac,Nat.zero_add];exact(hwz.r9.cell j).trans hu) (by go_simp)⟩) P2.out.drew ?_;try simp only[nm]
 refine Rl 4 rfl fun K hK=>?_
 go_simp;refine(Xdx x _).mono ?_;rintro e w3 ⟨rfl,hb3⟩;have P3:=Hd (P2.out.drew.below hb3);clear hb3;refine hK.out _ _ P3.out ?_;clear hK K P2;try simp only[nm]
 refine Tk 5 rfl ?_ P3.out ?_ ⟨?_,rfl⟩
 ·intro w hw;(try dsimp only at hw);go_simp;try with_reducible rfl
 try simp only[nm]
 refine Tk 6 rfl ?_ P3.out ?_ ⟨?_,rfl⟩
 ·intro w hw;(try dsimp only at hw);go_simp;try with_reducible rfl
 try simp only[nm]
 refine Tk 7 rfl ?_ P3.out ?_ ⟨?_,rfl⟩
 ·intro w hw;(try dsimp only at hw);go_simp;try with_reducible rfl
 try simp only[nm]
 refine Tk 8 rfl ?_ P3.out ?_ ⟨?_,rfl⟩
 ·intro w hw;try dsimp only at hw
  have c51:w.cell? ⟨g5,1,none⟩=some (.slice (some ia) n c):=hw.r5.cell 1;go_simp;try with_reducible rfl
 try simp only[nm]
 refine Tk 9 rfl ?_ P3.out ?_ ⟨?_,rfl⟩
 ·intro w hw;(try dsimp only at hw);go_simp;try with_reducible rfl
 try simp only[nm]
 refine Tk 10 rfl ?_ P3.out ?_ ⟨?_,rfl⟩
 ·intro w hw;(try dsimp only at hw);go_simp;try with_reducible rfl
 try simp only[nm]
 refine Rl 11 rfl fun K hK=>?_
 go_simp;refine(HBY.out _ P3.out.b).mono ?_;rintro e w4 ⟨rfl,hb4⟩;have P4:=Hd (P3.out.below hb4);clear hb4;refine hK.out _ _ P4.out ?_;clear hK K P3;try simp only[nm]
 refine Tk 12 rfl ?_ P4.out ?_ ⟨?_,rfl⟩
 ·intro w hw;(try dsimp only at hw);go_simp;try with_reducible rfl
 try simp only[nm]
 refine wpAnyH_done (by kernel_rfl) ?_ _;have c51:w4.cell? ⟨g5,1,none⟩=some (.slice (some ia) n c):=P4.out.r5.cell 1;go_upto_region 8 with fail
 go_wp2_with (first
  | ((with_reducible show wpList _ _ _ (⟨some 41,_,_,_,_,_⟩::_) _ _);go_must(refine Xa3 rfl 165 (.tmp 9) rfl g9 165 (askC x) _ Tryd.underlying165 rfl (Xa7 HY.out) P4.out.r9 ?_ ?_;go_simp)))
 clear c51;refine(HALW.out _ P4.out.b).mono ?_;rintro e w5 ⟨rfl,hb5⟩;have P5:=Hd (P4.out.below hb5);clear hb5 P4 HALW;have HCL:=Hd (Xip la ln lc B l w5 (HL.out.below (P5.out.b.mono HB.out)) (Lq HB.out P5.out.b.size) hln HLN0.out);go_wp2_with fail;refine HCL.out.mono ?_;rintro e w6 ⟨g,cap,rest,rfl,hO,hb6⟩;have P6:=Hd (P5.out.below hb6);have HO6:=Hd hO;have HG6:Hid (g9<g):=Hd (by have:=P5.out.r9.lt;have:=hO.lo;omega);have HW5:=Hd P5.out.b.size;clear hb6 HCL P5 hO;go_wp2_with fail;refine(Xmd _ ln cap _ HO6.out.room.1 HO6.out.room.2).mono ?_;rintro e w7 ⟨rfl,rfl⟩;have HO7:=Hd (HO6.out.low HW5.out);clear HO6 HW5;have hla1:(a:Int)<ln:=by have:=HA.out;omega
 have hn0:(0:Int)<n:=by omega
 have hla2:a<ln:=HA.out;have hn02:0<n:=by omega
 have HNN:=Hd hnd2;clear hnd2 hf hf';go_upto_region 12 with fail
 refine wp_region_held_drew (S:=(fun V=>DOs w V g5 g9 (insC p (some ia) n c D dn dc) x)) (by kernel_rfl) P6.out.drew (fun _=>?_);refine Tl 0 (v:=.agg (askC x).toArray) rfl (Or.inl ⟨by rfl,fun wz hwz=>Xa4 wz 165 (.tmp 9) rfl ⟨g9,0,none⟩ (askC x) _ Tryd.underlying165 rfl (Xa7 HY.out) (fun j u hu=>by rw[Xac,Nat.zero_add];exact(hwz.r9.cell j).trans hu) (by go_simp)⟩) P6.out.drew ?_;try simp only[nm]
 refine Tk 1 rfl ?_ P6.out.drew ?_ ⟨?_,rfl⟩
 ·intro w hw;(try dsimp only at hw);go_simp;try with_reducible rfl
 try simp only[nm]
 refine Tk 2 rfl ?_ P6.out.drew ?_ ⟨?_,rfl⟩
 ·intro w hw;(try dsimp only at hw);go_simp;try with_reducible rfl
 try simp only[nm]
 refine Tk 3 rfl ?_ P6.out.drew ?_ ⟨?_,rfl⟩
 ·intro w hw;try dsimp only at hw
  have c51:w.cell? ⟨g5,1,none⟩=some (.slice (some ia) n c):=hw.r5.cell 1;go_simp;try with_reducible rfl
 try simp only[nm]
 refine Tk 4 rfl ?_ P6.out.drew ?_ ⟨?_,rfl⟩
 ·intro w hw;(try dsimp only at hw);go_simp;try with_reducible rfl
 try simp only[nm]
 refine Tk 5 rfl ?_ P6.out.drew ?_ ⟨?_,rfl⟩
 ·intro w hw;try dsimp only at hw
  have d0:=HD0.out _ hw.b;go_simp;try with_reducible rfl
 try simp only[nm]
 refine Tk 6 rfl ?_ P6.out.drew ?_ ⟨?_,rfl⟩
 ·intro w hw;(try dsimp only at hw);go_simp;try with_reducible rfl
 try simp only[nm]
 refine Tl 7 (v:=.agg (wrkC x (.pointer (some ⟨g,a*34,none⟩)) (.pointer none)).toArray) rfl (Or.inl ⟨by rfl,fun wz hwz=>Xao wz _ _ _ rfl (by simp only[List.map_toArray,List.map_cons,List.map_nil];exact Xdg HY.out _)⟩) P6.out.drew ?_;try simp only[nm]
 refine Rl 8 rfl fun K hK=>?_
 refine Xbm 174 rfl (wrkC ask0 (.pointer none) (.pointer none)) Xee ?_;obtain⟨h,hh⟩:∃h,h=w6.drew.heap.size:=⟨_,rfl⟩;have hba:=(Br w6.drew.heap.size w6.drew).alloc (Lr _) (.cells (wrkC ask0 (.pointer none) (.pointer none)).toArray 174);have P7:=Hd (P6.out.drew.below hba);have RH:=Hd (Row.new w6.drew 174 (wrkC ask0 (.pointer none) (.pointer none)));have HO8:=Hd ((show OutAt w6.drew w.heap.size g cap ln rest l from⟨HO7.out.row.drew,HO7.out.lo,HO7.out.len,HO7.out.room,HO7.out.all,HO7.out.ok⟩).below hba);have HH9:Hid (g9<w6.drew.heap.size∧w6.drew.heap.size≠g):=Hd ⟨P6.out.r9.lt,Ne.symm (Nat.ne_of_lt HO7.out.row.lt)⟩;rw[←hh]at RH HH9 ⊢;clear hh hba;generalize w6.drew.alloc (.cells (wrkC ask0 (.pointer none) (.pointer none)).toArray 174)=w7 at *;refine hK.out _ _ P7.out ?_;clear hK K P6 HO7;try simp only[nm]
 refine Rl 9 rfl fun K hK=>?_
 refine Xal 174 (.tmp 13) (.tmp 59) rfl h 174 0 (wrkC ask0 (.pointer none) (.pointer none)) (wrkC x (.pointer (some ⟨g,a*34,none⟩)) (.pointer none)) RH.out (Xek HY.out _ _) (by rw[Xbr HY.out,Xbr Xbc.1];decide) (Xf3 rfl rfl) (by go_simp) (by go_simp) (fun w8 hr8 ht8=>?_);rw[List.take_zero,List.nil_append,Nat.zero_add,List.drop_of_length_le (by rw[Xbr HY.out,Xbr Xbc.1];decide),List.append_nil]at hr8;have P8:Hid (DQ w w8 g5 g9 g h cap ln rest x (.pointer (some ⟨g,a*34,none⟩)) (.pointer none) l (insC p (some ia) n c D dn dc)):=Hd ⟨P7.out.but (.of_turned ht8) HH9.out.1,⟨ht8.row HO8.out.row (Ne.symm HH9.out.2),HO8.out.lo,HO8.out.len,HO8.out.room,HO8.out.all,HO8.out.ok⟩,hr8,⟨HG6.out,HH9.out.1,HH9.out.2⟩⟩;clear hr8 ht8 P7 RH HO8;refine hK.out _ _ P8.out.p ?_;clear hK K;try simp only[Act.put]
 refine wpAnyH_done (by kernel_rfl) ?_ _;have HAS:=Hd (Xdx x w8);rw[HND.out]at HAS;go_upto_region 13 with fail
 go_wp2_with (first
  | ((with_reducible show wpList _ _ _ (⟨some 60,_,_,_,_,_⟩::_) _ _);go_must(refine Xa3 rfl 165 (.tmp 9) rfl g9 165 (askC x) _ Tryd.underlying165 rfl (Xa7 HY.out) P8.out.p.r9 ?_ ?_;go_simp)))
 refine HAS.out.mono ?_;rintro e w9 ⟨rfl,hb9⟩;have P9:=Hd (P8.out.below hb9);clear hb9 HAS P8;go_upto_region 15 with fail
 refine wp_region_held_drew (S:=(fun V=>∃out,DQ w V g5 g9 g h cap ln rest x (.pointer (some ⟨g,a*34,none⟩)) (.pointer none) out (insC p (some ia) n c D dn dc))) (by kernel_rfl) ⟨l,P9.out.drew⟩ (fun _=>?_);refine Tk 1 rfl ?_ ⟨l,P9.out.drew⟩ ?_ ⟨?_,rfl⟩
 ·intro w hw;(try dsimp only at hw);go_simp;try with_reducible rfl
 try simp only[nm]
 refine Tk 2 rfl ?_ ⟨l,P9.out.drew⟩ ?_ ⟨?_,rfl⟩
 ·intro w hw;try dsimp only at hw
  obtain⟨_,hw⟩:=hw;have c90:w.cell? ⟨g9,0,none⟩=some (.int .u64 1):=(hw.p.r9.cell 0).trans (by rw[←HT.out];rfl);go_simp;try with_reducible rfl
 try simp only[nm]
 refine Rl 0 rfl fun K hK=>?_
 go_simp;refine(Xi2 _).mono ?_;rintro e we ⟨rfl,hm,hbe⟩;have PE:=Hd (P9.out.drew.below hbe);have HLK:=Hd (Xdb hm (t:=1) (by decide));clear hm hbe P9;refine hK.out _ _ ⟨l,PE.out⟩ ?_;clear hK K;try simp only[nm]
 refine Rl 3 rfl fun K hK=>?_
 refine Xdj 176 (.tmp 70) (.tmp 72) rfl _ _ _ (by go_simp) (by go_simp) HLK.out ?_;clear HLK;refine hK.out _ _ ⟨l,PE.out⟩ ?_;clear hK K;try simp only[nm]
 refine Rl 4 rfl fun K hK=>?_
 go_simp;refine(Xkl w.heap.size g h cap ln rest x HAO.out a b l _ _ (PE.out.ds HY.out) HA.out).mono ?_;rintro e wf ⟨rfl,out,hds,hRl⟩;have PF:=Hd (PE.out.deed hds);have HRL:=Hd hRl;clear hds hRl PE;refine hK.out _ _ ⟨out,PF.out⟩ ?_;clear hK K;try simp only[nm]
 refine Tk 5 rfl ?_ ⟨out,PF.out⟩ ?_ ⟨?_,rfl⟩
 ·intro w hw;(try dsimp only at hw);go_simp;try with_reducible rfl
 try simp only[nm]
 refine wpAnyH_done (by kernel_rfl) ?_ _;rw[←HDR.out]at HRL ⊢;by_cases he:(deed14 l x a b).e=0
 rotate_left
 ·have HB2:=Hd (HFL.out he);have he1:((deed14 l x a b).e==0)=false:=by simpa using he
  have he2:((deed14 l x a b).e != 0)=true:=by simpa using he
  generalize (deed14 l x a b).e=ee at *;go_wp2_with fail;go_ret3
  exact Xdi (HD1.out.trans HB2.out) PF.out.p.b
 have HN2:=Hd (HDN.out he);have HL2:=Hd (HRL.out he);have HE:=Hd he;rw[he];clear he HRL;have c92:wf.cell? ⟨g9,2,none⟩=some (.int .u64 x.space):=PF.out.p.r9.cell 2;go_upto_region 18 with fail
 go_quiet (fail)
 go_wp2_with fail;go_ret3
 exact Xff (L:=out) (n:=x.space) (HD1.out.trans (by rw[HL2.out,←HN2.out,←HE.out])) (PF.out.drewN _).outs (PF.out.drewN _).p.b
theorem Xtw(l:List LAcc)(r:List LRole)(p:Int)(IA:Option Addr)(n c:Nat)(D:Option Addr)(dn dc:Nat)(acc dat:List Int)(LA:Option Addr)(ln lc:Nat)(RA:Option Addr)(rn rc:Nat)(B:Nat)(w:World)
 (hl:AccsIn w B LA ln l) (hlc:ln≤lc) (hr:RolesIn w B RA rn r) (hi:InsAt14 w B p IA n c D dn dc acc dat) (hB:B≤w.heap.size) (hn:n≤100000) (hln:ln≤100000) (hrn:rn≤100000) (heq:ln=rn) (x:LAsk) (hdat:dat14 dat=some x) (hf:¬n<need14 x) (ho:acc.any (byd14 ln)=false) (hp:plc14 x r acc=0) (a b:Nat) (ha:acc.getD 0 0=a) (hb:acc.getD (need14 x - 1) 0=b) (han:a<ln) (hbn:b<ln) (ht:x.tag=2) :
 Calls Tryd.prog 61 #[.slice LA ln lc,.slice RA rn rc,.agg (insC p IA n c D dn dc).toArray] w (DoDone w (do14 l r acc dat)):=by
 have HAO:=Hd (Xbt hi.db hdat);have HOK:Hid ((rd14 dat).ok=true):=Hd (by rw[(Xbn dat).1,hdat];rfl);have HYX:Hid ((rd14 dat).y=x):=Hd ((Xbn dat).2 x hdat);have HAL:Hid (acc.length=n):=Hd (by have:=hi.aSees.len;rwa [bL]at this);have HA:=Hd han;have HBN:=Hd hbn;have HD1:Hid (do14 l r acc dat=deed14 l x a b):=Hd (do_is (by rw[hl.len,hr.len];exact heq) hdat hp ha hb);have HDR:Hid (deed14 l x a b=move14 l x a b):=Hd (by rw[deed14,if_neg (by rw[ht];decide),if_neg (by rw[ht];decide),if_pos ht]);have HFL:=Hd (fun h=>Xd9 (l:=l) (x:=x) (a:=a) (b:=b) h);have HDN:=Hd (fun h=>Xgd (l:=l) (a:=a) (b:=b) (Xbt hi.db hdat) h);have hf':¬(n:Int)<(need14 x:Nat):=by omega
 have HPL:=Hd hp;have HT:=Hd ht;have HND:Hid (need14 x=2):=Hd (Xdd (.inr ht));have hnd2:2≤n:=by have:=HND.out;omega
 have HAN:Hid (acc.any (byd14 ln)=false):=Hd ho;have HLT:Hid (∀z ∈ acc,z<(ln:Int)):=Hd fun z hz=>by
  by_cases h:z<(ln:Int)
  ·exact h
  ·exact absurd (Xd6.2 ⟨z,hz,Int.not_lt.1 h⟩:acc.any (byd14 ln)=true) (by rw[ho];simp)
 clear ho;subst heq;have HLL:=Hd hl.len;have HLR:=Hd hr.len;have hbw:=(Br w.heap.size w).alloc (Lr _) (.cells (insC p IA n c D dn dc).toArray 108);have HBW:=Hd hbw;have R5:=Hd (Row.new w 108 (insC p IA n c D dn dc));have HL:=Hd hl;have HR:=Hd hr;have HI:=Hd hi;have HB:=Hd hB;clear hbw hl hr hi;obtain⟨g5,hg5⟩:∃g,g=w.heap.size:=⟨_,rfl⟩;have HG5:Hid (w.heap.size=g5):=Hd hg5.symm;rw[←hg5]at R5;clear hg5;generalize hW:w.alloc (.cells (insC p IA n c D dn dc).toArray 108)=W at *;have HW:=Hd hW;clear hW;have HAA:Hid (acc.getD 0 0=a):=Hd ha;have HBB:Hid (acc.getD 1 0=b):=Hd (by rw[HND.out]at hb;exact hb);clear ha hb hp ht han hbn;have HBY:Hid (∀(V:World),Below w.heap.size w V→Calls Tryd.prog 64 #[.slice IA n c,.int .i64 ln] V fun e w'=>e=.returned (.bool false)∧Below V.heap.size V w'):=Hd fun V hb=>by
  have:=Xef IA n c B ln acc V (HI.out.aSees.below (hb.mono HB.out)) (Lq HB.out hb.size) HI.out.ab hn hln;rwa [HAN.out]at this
 have HALW:Hid (∀(V:World),Below w.heap.size w V→Calls Tryd.prog 65 #[.agg (askC x).toArray,.slice RA ln rc,.slice IA n c] V fun e w'=>e=.returned (.int .i64 0)∧Below V.heap.size V w'):=Hd fun V hb=>by
  have:=Xdp x HAO.out IA n c acc RA ln rc r B V (HI.out.aSees.below (hb.mono HB.out)) HI.out.ab (HR.out.below (hb.mono HB.out)) (Lq HB.out hb.size) hn hln (by omega) HLT.out;rw[HPL.out]at this;exact this
 obtain⟨ia,d0w,hal256⟩:∃ia,IA=some ia∧(a:Int)<256:=by
  obtain⟨k,hk,hk2,hA⟩:=at14 (i:=0) HI.out.aSees HI.out.ab HR.out (by omega) HLT.out;obtain⟨⟨ia,_,e,_⟩,_⟩:=hA;rw[HAA.out]at hk;exact⟨ia,e,by omega⟩
 subst d0w;have HD0:Hid (∀V,Below w.heap.size w V→V.cell? ia=some (.int .u8 a)):=Hd fun V hb=>by
  obtain⟨k,hk,hk2,hA⟩:=at14 (i:=0) (HI.out.aSees.below (hb.mono HB.out)) HI.out.ab (HR.out.below (hb.mono HB.out)) (by omega) HLT.out;obtain⟨⟨ia',_,e,_,d,_⟩,_⟩:=hA;cases e
  rw[HAA.out]at hk;have:k=a:=by omega
  subst this;simpa [Addr.add]using d
 have HD1':Hid (∀V,Below w.heap.size w V→V.cell? ⟨ia.block,ia.off+1,none⟩=some (.int .u8 b)):=Hd fun V hb=>by
  obtain⟨k,hk,hk2,hA⟩:=at14 (i:=1) (HI.out.aSees.below (hb.mono HB.out)) HI.out.ab (HR.out.below (hb.mono HB.out)) (by omega) HLT.out;obtain⟨⟨ia',_,e,_,d,_⟩,_⟩:=hA;cases e
  rw[HBB.out]at hk;have:k=b:=by omega
  subst this;simpa [Addr.add]using d
 have hbl256:(b:Int)<256:=by
  obtain⟨k,hk,hk2,hA⟩:=at14 (i:=1) HI.out.aSees HI.out.ab HR.out (by omega) HLT.out;rw[HBB.out]at hk;omega
 obtain⟨la,hla⟩:∃la,LA=some la:=by
  obtain⟨la,_,e,_⟩:=HL.out.get (k:=a) HA.out;exact⟨la,e⟩
 subst hla;have HLN0:Hid (0<ln):=Hd (by have:=HA.out;omega);go_enter Tryd.func61,Tryd.ntmps61
 go_upto_region 1 with fail
 try rw[HG5.out]
 rw[HW.out];clear HW;have c52:W.cell? ⟨g5,2,none⟩=some (.slice D dn dc):=R5.out.cell 2;have HRD:=Hd (Xfz D dn dc B dat W (HI.out.dSees.below (HBW.out.mono HB.out)) (Lq HB.out HBW.out.size) HI.out.dc.1 HI.out.dc.2 HI.out.db);go_upto_region 3 with fail
 go_wp2_with fail;clear c52;refine HRD.out.mono ?_;rintro e w1 ⟨rfl,hyl,hb1⟩;have B1:=Hd (HBW.out.trans (hb1.mono HBW.out.size));have R51:=Hd (R5.out.below hb1 R5.out.lt);have HY:=Hd hyl;clear hb1 hyl HRD HBW R5;rw[HOK.out];rw[HYX.out];rw[HYX.out]at HY;go_upto_region 4 with(first
  | ((with_reducible show wpList _ _ _ (⟨some 9,_,_,_,_,_⟩::_) _ _);go_must(refine Xa2 rfl 165 rfl (askC ask0) Xb1 ?_))
  | ((with_reducible show wpList _ _ _ (⟨none,Op.store 165 _ _,_,_,_,_⟩::_) _ _);go_must(refine Xa6 rfl 165 (.tmp 9) (.tmp 24) rfl (askC x) (Xa7 HY.out) (Xba _) ((show(askC ask0).toArray.size=35 from rfl).trans (Xaq HY.out).symm) ?_ ?_ ?_;go_simp;go_simp;intro w2 hr2 hb2 hz2)))
 obtain⟨g9,hg9⟩:∃g,g=w1.heap.size:=⟨_,rfl⟩;have P2:Hid (DOs w w2 g5 w1.heap.size (insC p (some ia) n c D dn dc) x):=Hd ⟨B1.out.trans (hb2.mono B1.out.size),R51.out.below hb2 R51.out.lt,hr2,⟨Nat.le_of_eq HG5.out,R51.out.lt⟩⟩;rw[←hg9]at P2 ⊢;clear hr2 hb2 hz2 hg9 B1 R51 HG5;go_upto_region 6 with fail
 refine wp_region_held_drew (S:=(fun V=>DOs w V g5 g9 (insC p (some ia) n c D dn dc) x)) (by kernel_rfl) P2.out.drew (fun _=>?_);refine Tk 0 rfl ?_ P2.out.drew ?_ ⟨?_,rfl⟩
 ·intro w hw;(try dsimp only at hw);go_simp;try with_reducible rfl
 try simp only[nm]
 refine Tk 1 rfl ?_ P2.out.drew ?_ ⟨?_,rfl⟩
 ·intro w hw;try dsimp only at hw
  have c51:w.cell? ⟨g5,1,none⟩=some (.slice (some ia) n c):=hw.r5.cell 1;go_simp;try with_reducible rfl
 try simp only[nm]
 refine Tk 2 rfl ?_ P2.out.drew ?_ ⟨?_,rfl⟩
 ·intro w hw;(try dsimp only at hw);go_simp;try with_reducible rfl
 try simp only[nm]
 refine Tl 3 (v:=.agg (askC x).toArray) rfl (Or.inl ⟨by rfl,fun wz hwz=>Xa4 wz 165 (.tmp 9) rfl ⟨g9,0,none⟩ (askC x) _ Tryd.underlying165 rfl (Xa7 HY.out) (fun j u hu=>by rw[Xac,Nat.zero_add];exact(hwz.r9.cell j).trans hu) (by go_simp)⟩) P2.out.drew ?_;try simp only[nm]
 refine Rl 4 rfl fun K hK=>?_
 go_simp;refine(Xdx x _).mono ?_;rintro e w3 ⟨rfl,hb3⟩;have P3:=Hd (P2.out.drew.below hb3);clear hb3;refine hK.out _ _ P3.out ?_;clear hK K P2;try simp only[nm]
 refine Tk 5 rfl ?_ P3.out ?_ ⟨?_,rfl⟩
 ·intro w hw;(try dsimp only at hw);go_simp;try with_reducible rfl
 try simp only[nm]
 refine Tk 6 rfl ?_ P3.out ?_ ⟨?_,rfl⟩
 ·intro w hw;(try dsimp only at hw);go_simp;try with_reducible rfl
 try simp only[nm]
 refine Tk 7 rfl ?_ P3.out ?_ ⟨?_,rfl⟩
 ·intro w hw;(try dsimp only at hw);go_simp;try with_reducible rfl
 try simp only[nm]
 refine Tk 8 rfl ?_ P3.out ?_ ⟨?_,rfl⟩
 ·intro w hw;try dsimp only at hw
  have c51:w.cell? ⟨g5,1,none⟩=some (.slice (some ia) n c):=hw.r5.cell 1;go_simp;try with_reducible rfl
 try simp only[nm]
 refine Tk 9 rfl ?_ P3.out ?_ ⟨?_,rfl⟩
 ·intro w hw;(try dsimp only at hw);go_simp;try with_reducible rfl
 try simp only[nm]
 refine Tk 10 rfl ?_ P3.out ?_ ⟨?_,rfl⟩
 ·intro w hw;(try dsimp only at hw);go_simp;try with_reducible rfl
 try simp only[nm]
 refine Rl 11 rfl fun K hK=>?_
 go_simp;refine(HBY.out _ P3.out.b).mono ?_;rintro e w4 ⟨rfl,hb4⟩;have P4:=Hd (P3.out.below hb4);clear hb4;refine hK.out _ _ P4.out ?_;clear hK K P3;try simp only[nm]
 refine Tk 12 rfl ?_ P4.out ?_ ⟨?_,rfl⟩
 ·intro w hw;(try dsimp only at hw);go_simp;try with_reducible rfl
 try simp only[nm]
 refine wpAnyH_done (by kernel_rfl) ?_ _;have c51:w4.cell? ⟨g5,1,none⟩=some (.slice (some ia) n c):=P4.out.r5.cell 1;go_upto_region 8 with fail
 go_wp2_with (first
  | ((with_reducible show wpList _ _ _ (⟨some 41,_,_,_,_,_⟩::_) _ _);go_must(refine Xa3 rfl 165 (.tmp 9) rfl g9 165 (askC x) _ Tryd.underlying165 rfl (Xa7 HY.out) P4.out.r9 ?_ ?_;go_simp)))
 clear c51;refine(HALW.out _ P4.out.b).mono ?_;rintro e w5 ⟨rfl,hb5⟩;have P5:=Hd (P4.out.below hb5);clear hb5 P4 HALW;have HCL:=Hd (Xip la ln lc B l w5 (HL.out.below (P5.out.b.mono HB.out)) (Lq HB.out P5.out.b.size) hln HLN0.out);go_wp2_with fail;refine HCL.out.mono ?_;rintro e w6 ⟨g,cap,rest,rfl,hO,hb6⟩;have P6:=Hd (P5.out.below hb6);have HO6:=Hd hO;have HG6:Hid (g9<g):=Hd (by have:=P5.out.r9.lt;have:=hO.lo;omega);have HW5:=Hd P5.out.b.size;clear hb6 HCL P5 hO;go_wp2_with fail;refine(Xmd _ ln cap _ HO6.out.room.1 HO6.out.room.2).mono ?_;rintro e w7 ⟨rfl,rfl⟩;have HO7:=Hd (HO6.out.low HW5.out);clear HO6 HW5;have hla1:(a:Int)<ln:=by have:=HA.out;omega
 have hn0:(0:Int)<n:=by omega
 have hla2:a<ln:=HA.out;have hn02:0<n:=by omega
 have HNN:=Hd hnd2;clear hnd2 hf hf';go_upto_region 12 with fail
 refine wp_region_held_drew (S:=(fun V=>DOs w V g5 g9 (insC p (some ia) n c D dn dc) x)) (by kernel_rfl) P6.out.drew (fun _=>?_);refine Tl 0 (v:=.agg (askC x).toArray) rfl (Or.inl ⟨by rfl,fun wz hwz=>Xa4 wz 165 (.tmp 9) rfl ⟨g9,0,none⟩ (askC x) _ Tryd.underlying165 rfl (Xa7 HY.out) (fun j u hu=>by rw[Xac,Nat.zero_add];exact(hwz.r9.cell j).trans hu) (by go_simp)⟩) P6.out.drew ?_;try simp only[nm]
 refine Tk 1 rfl ?_ P6.out.drew ?_ ⟨?_,rfl⟩
 ·intro w hw;(try dsimp only at hw);go_simp;try with_reducible rfl
 try simp only[nm]
 refine Tk 2 rfl ?_ P6.out.drew ?_ ⟨?_,rfl⟩
 ·intro w hw;(try dsimp only at hw);go_simp;try with_reducible rfl
 try simp only[nm]
 refine Tk 3 rfl ?_ P6.out.drew ?_ ⟨?_,rfl⟩
 ·intro w hw;try dsimp only at hw
  have c51:w.cell? ⟨g5,1,none⟩=some (.slice (some ia) n c):=hw.r5.cell 1;go_simp;try with_reducible rfl
 try simp only[nm]
 refine Tk 4 rfl ?_ P6.out.drew ?_ ⟨?_,rfl⟩
 ·intro w hw;(try dsimp only at hw);go_simp;try with_reducible rfl
 try simp only[nm]
 refine Tk 5 rfl ?_ P6.out.drew ?_ ⟨?_,rfl⟩
 ·intro w hw;try dsimp only at hw
  have d0:=HD0.out _ hw.b;go_simp;try with_reducible rfl
 try simp only[nm]
 refine Tk 6 rfl ?_ P6.out.drew ?_ ⟨?_,rfl⟩
 ·intro w hw;(try dsimp only at hw);go_simp;try with_reducible rfl
 try simp only[nm]
 refine Tl 7 (v:=.agg (wrkC x (.pointer (some ⟨g,a*34,none⟩)) (.pointer none)).toArray) rfl (Or.inl ⟨by rfl,fun wz hwz=>Xao wz _ _ _ rfl (by simp only[List.map_toArray,List.map_cons,List.map_nil];exact Xdg HY.out _)⟩) P6.out.drew ?_;try simp only[nm]
 refine Rl 8 rfl fun K hK=>?_
 refine Xbm 174 rfl (wrkC ask0 (.pointer none) (.pointer none)) Xee ?_;obtain⟨h,hh⟩:∃h,h=w6.drew.heap.size:=⟨_,rfl⟩;have hba:=(Br w6.drew.heap.size w6.drew).alloc (Lr _) (.cells (wrkC ask0 (.pointer none) (.pointer none)).toArray 174);have P7:=Hd (P6.out.drew.below hba);have RH:=Hd (Row.new w6.drew 174 (wrkC ask0 (.pointer none) (.pointer none)));have HO8:=Hd ((show OutAt w6.drew w.heap.size g cap ln rest l from⟨HO7.out.row.drew,HO7.out.lo,HO7.out.len,HO7.out.room,HO7.out.all,HO7.out.ok⟩).below hba);have HH9:Hid (g9<w6.drew.heap.size∧w6.drew.heap.size≠g):=Hd ⟨P6.out.r9.lt,Ne.symm (Nat.ne_of_lt HO7.out.row.lt)⟩;rw[←hh]at RH HH9 ⊢;clear hh hba;generalize w6.drew.alloc (.cells (wrkC ask0 (.pointer none) (.pointer none)).toArray 174)=w7 at *;refine hK.out _ _ P7.out ?_;clear hK K P6 HO7;try simp only[nm]
 refine Rl 9 rfl fun K hK=>?_
 refine Xal 174 (.tmp 13) (.tmp 59) rfl h 174 0 (wrkC ask0 (.pointer none) (.pointer none)) (wrkC x (.pointer (some ⟨g,a*34,none⟩)) (.pointer none)) RH.out (Xek HY.out _ _) (by rw[Xbr HY.out,Xbr Xbc.1];decide) (Xf3 rfl rfl) (by go_simp) (by go_simp) (fun w8 hr8 ht8=>?_);rw[List.take_zero,List.nil_append,Nat.zero_add,List.drop_of_length_le (by rw[Xbr HY.out,Xbr Xbc.1];decide),List.append_nil]at hr8;have P8:Hid (DQ w w8 g5 g9 g h cap ln rest x (.pointer (some ⟨g,a*34,none⟩)) (.pointer none) l (insC p (some ia) n c D dn dc)):=Hd ⟨P7.out.but (.of_turned ht8) HH9.out.1,⟨ht8.row HO8.out.row (Ne.symm HH9.out.2),HO8.out.lo,HO8.out.len,HO8.out.room,HO8.out.all,HO8.out.ok⟩,hr8,⟨HG6.out,HH9.out.1,HH9.out.2⟩⟩;clear hr8 ht8 P7 RH HO8;refine hK.out _ _ P8.out.p ?_;clear hK K;try simp only[Act.put]
 refine wpAnyH_done (by kernel_rfl) ?_ _;have HAS:=Hd (Xdx x w8);rw[HND.out]at HAS;go_upto_region 13 with fail
 go_wp2_with (first
  | ((with_reducible show wpList _ _ _ (⟨some 60,_,_,_,_,_⟩::_) _ _);go_must(refine Xa3 rfl 165 (.tmp 9) rfl g9 165 (askC x) _ Tryd.underlying165 rfl (Xa7 HY.out) P8.out.p.r9 ?_ ?_;go_simp)))
 refine HAS.out.mono ?_;rintro e w9 ⟨rfl,hb9⟩;have PXq:=Hd (P8.out.below hb9);clear hb9 HAS P8;have c51:w9.cell? ⟨g5,1,none⟩=some (.slice (some ia) n c):=PXq.out.p.r5.cell 1;have d1:=HD1'.out _ PXq.out.p.b;have c36:w9.cell? ⟨h,36,none⟩=some (.pointer none):=(PXq.out.rh.cell 36).trans (wrk_b HY.out _ _);have f36:=PXq.out.rh.frozen 36;have hlb1:(b:Int)<ln:=by have:=HBN.out;omega
 have hlb2:b<ln:=HBN.out;have hn12:1<n:=by have:=HNN.out;omega
 have hn1:(1:Int)<n:=by have:=HNN.out;omega
 have P9:=Hd (PXq.out.second HY.out (.pointer (some ⟨g,b*34,none⟩)));go_upto_region 15 with fail
 clear c51 d1 c36 f36 PXq;generalize w9.setCell ⟨h,36,none⟩ (.pointer (some ⟨g,b*34,none⟩))=wd at *;refine wp_region_held_drew (S:=(fun V=>∃out,DQ w V g5 g9 g h cap ln rest x (.pointer (some ⟨g,a*34,none⟩)) (.pointer (some ⟨g,b*34,none⟩)) out (insC p (some ia) n c D dn dc))) (by kernel_rfl) ⟨l,P9.out.drew⟩ (fun _=>?_);refine Tk 1 rfl ?_ ⟨l,P9.out.drew⟩ ?_ ⟨?_,rfl⟩
 ·intro w hw;(try dsimp only at hw);go_simp;try with_reducible rfl
 try simp only[nm]
 refine Tk 2 rfl ?_ ⟨l,P9.out.drew⟩ ?_ ⟨?_,rfl⟩
 ·intro w hw;try dsimp only at hw
  obtain⟨_,hw⟩:=hw;have c90:w.cell? ⟨g9,0,none⟩=some (.int .u64 2):=(hw.p.r9.cell 0).trans (by rw[←HT.out];rfl);go_simp;try with_reducible rfl
 try simp only[nm]
 refine Rl 0 rfl fun K hK=>?_
 go_simp;refine(Xi2 _).mono ?_;rintro e we ⟨rfl,hm,hbe⟩;have PE:=Hd (P9.out.drew.below hbe);have HLK:=Hd (Xdb hm (t:=2) (by decide));clear hm hbe P9;refine hK.out _ _ ⟨l,PE.out⟩ ?_;clear hK K;try simp only[nm]
 refine Rl 3 rfl fun K hK=>?_
 refine Xdj 176 (.tmp 70) (.tmp 72) rfl _ _ _ (by go_simp) (by go_simp) HLK.out ?_;clear HLK;refine hK.out _ _ ⟨l,PE.out⟩ ?_;clear hK K;try simp only[nm]
 refine Rl 4 rfl fun K hK=>?_
 go_simp;refine(Xqp w.heap.size g h cap ln rest x HAO.out a b l _ (PE.out.ds HY.out) HA.out HBN.out).mono ?_;rintro e wf ⟨rfl,out,hds,hRl⟩;have PF:=Hd (PE.out.deed hds);have HRL:=Hd hRl;clear hds hRl PE;refine hK.out _ _ ⟨out,PF.out⟩ ?_;clear hK K;try simp only[nm]
 refine Tk 5 rfl ?_ ⟨out,PF.out⟩ ?_ ⟨?_,rfl⟩
 ·intro w hw;(try dsimp only at hw);go_simp;try with_reducible rfl
 try simp only[nm]
 refine wpAnyH_done (by kernel_rfl) ?_ _;rw[←HDR.out]at HRL ⊢;by_cases he:(deed14 l x a b).e=0
 rotate_left
 ·have HB2:=Hd (HFL.out he);have he1:((deed14 l x a b).e==0)=false:=by simpa using he
  have he2:((deed14 l x a b).e != 0)=true:=by simpa using he
  generalize (deed14 l x a b).e=ee at *;go_wp2_with fail;go_ret3
  exact Xdi (HD1.out.trans HB2.out) PF.out.p.b
 have HN2:=Hd (HDN.out he);have HL2:=Hd (HRL.out he);have HE:=Hd he;rw[he];clear he HRL;have c92:wf.cell? ⟨g9,2,none⟩=some (.int .u64 x.space):=PF.out.p.r9.cell 2;go_upto_region 18 with fail
 go_quiet (fail)
 go_wp2_with fail;go_ret3
 exact Xff (L:=out) (n:=x.space) (HD1.out.trans (by rw[HL2.out,←HN2.out,←HE.out])) (PF.out.drewN _).outs (PF.out.drewN _).p.b
theorem Xtt(l:List LAcc)(r:List LRole)(p:Int)(IA:Option Addr)(n c:Nat)(D:Option Addr)(dn dc:Nat)(acc dat:List Int)(LA:Option Addr)(ln lc:Nat)(RA:Option Addr)(rn rc:Nat)(B:Nat)(w:World)
 (hl:AccsIn w B LA ln l) (hlc:ln≤lc) (hr:RolesIn w B RA rn r) (hi:InsAt14 w B p IA n c D dn dc acc dat) (hB:B≤w.heap.size) (hn:n≤100000) (hln:ln≤100000) (hrn:rn≤100000) (heq:ln=rn) (x:LAsk) (hdat:dat14 dat=some x) (hf:¬n<need14 x) (ho:acc.any (byd14 ln)=false) (hp:plc14 x r acc=0) (a b:Nat) (ha:acc.getD 0 0=a) (hb:acc.getD (need14 x - 1) 0=b) (han:a<ln) (hbn:b<ln) (ht:x.tag=8) :
 Calls Tryd.prog 61 #[.slice LA ln lc,.slice RA rn rc,.agg (insC p IA n c D dn dc).toArray] w (DoDone w (do14 l r acc dat)):=by
 have HAO:=Hd (Xbt hi.db hdat);have HOK:Hid ((rd14 dat).ok=true):=Hd (by rw[(Xbn dat).1,hdat];rfl);have HYX:Hid ((rd14 dat).y=x):=Hd ((Xbn dat).2 x hdat);have HAL:Hid (acc.length=n):=Hd (by have:=hi.aSees.len;rwa [bL]at this);have HA:=Hd han;have HBN:=Hd hbn;have HD1:Hid (do14 l r acc dat=deed14 l x a b):=Hd (do_is (by rw[hl.len,hr.len];exact heq) hdat hp ha hb);have HDR:Hid (deed14 l x a b=space14 l x a):=Hd (by rw[deed14,if_neg (by rw[ht];decide),if_neg (by rw[ht];decide),if_neg (by rw[ht];decide)]);have HFL:=Hd (fun h=>Xd9 (l:=l) (x:=x) (a:=a) (b:=b) h);have HDN:=Hd (fun h=>Xgd (l:=l) (a:=a) (b:=b) (Xbt hi.db hdat) h);have hf':¬(n:Int)<(need14 x:Nat):=by omega
 have HPL:=Hd hp;have HT:=Hd ht;have HND:Hid (need14 x=1):=Hd (Xe6 (by unfold two14;rw[ht];decide));have hnd2:1≤n:=by have:=HND.out;omega
 have HAN:Hid (acc.any (byd14 ln)=false):=Hd ho;have HLT:Hid (∀z ∈ acc,z<(ln:Int)):=Hd fun z hz=>by
  by_cases h:z<(ln:Int)
  ·exact h
  ·exact absurd (Xd6.2 ⟨z,hz,Int.not_lt.1 h⟩:acc.any (byd14 ln)=true) (by rw[ho];simp)
 clear ho;subst heq;have HLL:=Hd hl.len;have HLR:=Hd hr.len;have hbw:=(Br w.heap.size w).alloc (Lr _) (.cells (insC p IA n c D dn dc).toArray 108);have HBW:=Hd hbw;have R5:=Hd (Row.new w 108 (insC p IA n c D dn dc));have HL:=Hd hl;have HR:=Hd hr;have HI:=Hd hi;have HB:=Hd hB;clear hbw hl hr hi;obtain⟨g5,hg5⟩:∃g,g=w.heap.size:=⟨_,rfl⟩;have HG5:Hid (w.heap.size=g5):=Hd hg5.symm;rw[←hg5]at R5;clear hg5;generalize hW:w.alloc (.cells (insC p IA n c D dn dc).toArray 108)=W at *;have HW:=Hd hW;clear hW;have HAA:Hid (acc.getD 0 0=a):=Hd ha;have HBB:Hid (acc.getD 0 0=b):=Hd (by rw[HND.out]at hb;exact hb);clear ha hb hp ht han hbn;have HBY:Hid (∀(V:World),Below w.heap.size w V→Calls Tryd.prog 64 #[.slice IA n c,.int .i64 ln] V fun e w'=>e=.returned (.bool false)∧Below V.heap.size V w'):=Hd fun V hb=>by
  have:=Xef IA n c B ln acc V (HI.out.aSees.below (hb.mono HB.out)) (Lq HB.out hb.size) HI.out.ab hn hln;rwa [HAN.out]at this
 have HALW:Hid (∀(V:World),Below w.heap.size w V→Calls Tryd.prog 65 #[.agg (askC x).toArray,.slice RA ln rc,.slice IA n c] V fun e w'=>e=.returned (.int .i64 0)∧Below V.heap.size V w'):=Hd fun V hb=>by
  have:=Xdp x HAO.out IA n c acc RA ln rc r B V (HI.out.aSees.below (hb.mono HB.out)) HI.out.ab (HR.out.below (hb.mono HB.out)) (Lq HB.out hb.size) hn hln (by omega) HLT.out;rw[HPL.out]at this;exact this
 obtain⟨ia,d0w,hal256⟩:∃ia,IA=some ia∧(a:Int)<256:=by
  obtain⟨k,hk,hk2,hA⟩:=at14 (i:=0) HI.out.aSees HI.out.ab HR.out (by omega) HLT.out;obtain⟨⟨ia,_,e,_⟩,_⟩:=hA;rw[HAA.out]at hk;exact⟨ia,e,by omega⟩
 subst d0w;have HD0:Hid (∀V,Below w.heap.size w V→V.cell? ia=some (.int .u8 a)):=Hd fun V hb=>by
  obtain⟨k,hk,hk2,hA⟩:=at14 (i:=0) (HI.out.aSees.below (hb.mono HB.out)) HI.out.ab (HR.out.below (hb.mono HB.out)) (by omega) HLT.out;obtain⟨⟨ia',_,e,_,d,_⟩,_⟩:=hA;cases e
  rw[HAA.out]at hk;have:k=a:=by omega
  subst this;simpa [Addr.add]using d
 obtain⟨la,hla⟩:∃la,LA=some la:=by
  obtain⟨la,_,e,_⟩:=HL.out.get (k:=a) HA.out;exact⟨la,e⟩
 subst hla;have HLN0:Hid (0<ln):=Hd (by have:=HA.out;omega);go_enter Tryd.func61,Tryd.ntmps61
 go_upto_region 1 with fail
 try rw[HG5.out]
 rw[HW.out];clear HW;have c52:W.cell? ⟨g5,2,none⟩=some (.slice D dn dc):=R5.out.cell 2;have HRD:=Hd (Xfz D dn dc B dat W (HI.out.dSees.below (HBW.out.mono HB.out)) (Lq HB.out HBW.out.size) HI.out.dc.1 HI.out.dc.2 HI.out.db);go_upto_region 3 with fail
 go_wp2_with fail;clear c52;refine HRD.out.mono ?_;rintro e w1 ⟨rfl,hyl,hb1⟩;have B1:=Hd (HBW.out.trans (hb1.mono HBW.out.size));have R51:=Hd (R5.out.below hb1 R5.out.lt);have HY:=Hd hyl;clear hb1 hyl HRD HBW R5;rw[HOK.out];rw[HYX.out];rw[HYX.out]at HY;go_upto_region 4 with(first
  | ((with_reducible show wpList _ _ _ (⟨some 9,_,_,_,_,_⟩::_) _ _);go_must(refine Xa2 rfl 165 rfl (askC ask0) Xb1 ?_))
  | ((with_reducible show wpList _ _ _ (⟨none,Op.store 165 _ _,_,_,_,_⟩::_) _ _);go_must(refine Xa6 rfl 165 (.tmp 9) (.tmp 24) rfl (askC x) (Xa7 HY.out) (Xba _) ((show(askC ask0).toArray.size=35 from rfl).trans (Xaq HY.out).symm) ?_ ?_ ?_;go_simp;go_simp;intro w2 hr2 hb2 hz2)))
 obtain⟨g9,hg9⟩:∃g,g=w1.heap.size:=⟨_,rfl⟩;have P2:Hid (DOs w w2 g5 w1.heap.size (insC p (some ia) n c D dn dc) x):=Hd ⟨B1.out.trans (hb2.mono B1.out.size),R51.out.below hb2 R51.out.lt,hr2,⟨Nat.le_of_eq HG5.out,R51.out.lt⟩⟩;rw[←hg9]at P2 ⊢;clear hr2 hb2 hz2 hg9 B1 R51 HG5;go_upto_region 6 with fail
 refine wp_region_held_drew (S:=(fun V=>DOs w V g5 g9 (insC p (some ia) n c D dn dc) x)) (by kernel_rfl) P2.out.drew (fun _=>?_);refine Tk 0 rfl ?_ P2.out.drew ?_ ⟨?_,rfl⟩
 ·intro w hw;(try dsimp only at hw);go_simp;try with_reducible rfl
 try simp only[nm]
 refine Tk 1 rfl ?_ P2.out.drew ?_ ⟨?_,rfl⟩
 ·intro w hw;try dsimp only at hw
  have c51:w.cell? ⟨g5,1,none⟩=some (.slice (some ia) n c):=hw.r5.cell 1;go_simp;try with_reducible rfl
 try simp only[nm]
 refine Tk 2 rfl ?_ P2.out.drew ?_ ⟨?_,rfl⟩
 ·intro w hw;(try dsimp only at hw);go_simp;try with_reducible rfl
 try simp only[nm]
 refine Tl 3 (v:=.agg (askC x).toArray) rfl (Or.inl ⟨by rfl,fun wz hwz=>Xa4 wz 165 (.tmp 9) rfl ⟨g9,0,none⟩ (askC x) _ Tryd.underlying165 rfl (Xa7 HY.out) (fun j u hu=>by rw[Xac,Nat.zero_add];exact(hwz.r9.cell j).trans hu) (by go_simp)⟩) P2.out.drew ?_;try simp only[nm]
 refine Rl 4 rfl fun K hK=>?_
 go_simp;refine(Xdx x _).mono ?_;rintro e w3 ⟨rfl,hb3⟩;have P3:=Hd (P2.out.drew.below hb3);clear hb3;refine hK.out _ _ P3.out ?_;clear hK K P2;try simp only[nm]
 refine Tk 5 rfl ?_ P3.out ?_ ⟨?_,rfl⟩
 ·intro w hw;(try dsimp only at hw);go_simp;try with_reducible rfl
 try simp only[nm]
 refine Tk 6 rfl ?_ P3.out ?_ ⟨?_,rfl⟩
 ·intro w hw;(try dsimp only at hw);go_simp;try with_reducible rfl
 try simp only[nm]
 refine Tk 7 rfl ?_ P3.out ?_ ⟨?_,rfl⟩
 ·intro w hw;(try dsimp only at hw);go_simp;try with_reducible rfl
 try simp only[nm]
 refine Tk 8 rfl ?_ P3.out ?_ ⟨?_,rfl⟩
 ·intro w hw;try dsimp only at hw
  have c51:w.cell? ⟨g5,1,none⟩=some (.slice (some ia) n c):=hw.r5.cell 1;go_simp;try with_reducible rfl
 try simp only[nm]
 refine Tk 9 rfl ?_ P3.out ?_ ⟨?_,rfl⟩
 ·intro w hw;(try dsimp only at hw);go_simp;try with_reducible rfl
 try simp only[nm]
 refine Tk 10 rfl ?_ P3.out ?_ ⟨?_,rfl⟩
 ·intro w hw;(try dsimp only at hw);go_simp;try with_reducible rfl
 try simp only[nm]
 refine Rl 11 rfl fun K hK=>?_
 go_simp;refine(HBY.out _ P3.out.b).mono ?_;rintro e w4 ⟨rfl,hb4⟩;have P4:=Hd (P3.out.below hb4);clear hb4;refine hK.out _ _ P4.out ?_;clear hK K P3;try simp only[nm]
 refine Tk 12 rfl ?_ P4.out ?_ ⟨?_,rfl⟩
 ·intro w hw;(try dsimp only at hw);go_simp;try with_reducible rfl
 try simp only[nm]
 refine wpAnyH_done (by kernel_rfl) ?_ _;have c51:w4.cell? ⟨g5,1,none⟩=some (.slice (some ia) n c):=P4.out.r5.cell 1;go_upto_region 8 with fail
 go_wp2_with (first
  | ((with_reducible show wpList _ _ _ (⟨some 41,_,_,_,_,_⟩::_) _ _);go_must(refine Xa3 rfl 165 (.tmp 9) rfl g9 165 (askC x) _ Tryd.underlying165 rfl (Xa7 HY.out) P4.out.r9 ?_ ?_;go_simp)))
 clear c51;refine(HALW.out _ P4.out.b).mono ?_;rintro e w5 ⟨rfl,hb5⟩;have P5:=Hd (P4.out.below hb5);clear hb5 P4 HALW;have HCL:=Hd (Xip la ln lc B l w5 (HL.out.below (P5.out.b.mono HB.out)) (Lq HB.out P5.out.b.size) hln HLN0.out);go_wp2_with fail;refine HCL.out.mono ?_;rintro e w6 ⟨g,cap,rest,rfl,hO,hb6⟩;have P6:=Hd (P5.out.below hb6);have HO6:=Hd hO;have HG6:Hid (g9<g):=Hd (by have:=P5.out.r9.lt;have:=hO.lo;omega);have HW5:=Hd P5.out.b.size;clear hb6 HCL P5 hO;go_wp2_with fail;refine(Xmd _ ln cap _ HO6.out.room.1 HO6.out.room.2).mono ?_;rintro e w7 ⟨rfl,rfl⟩;have HO7:=Hd (HO6.out.low HW5.out);clear HO6 HW5;have hla1:(a:Int)<ln:=by have:=HA.out;omega
 have hn0:(0:Int)<n:=by omega
 have hla2:a<ln:=HA.out;have hn02:0<n:=by omega
 have HNN:=Hd hnd2;clear hnd2 hf hf';go_upto_region 12 with fail
 refine wp_region_held_drew (S:=(fun V=>DOs w V g5 g9 (insC p (some ia) n c D dn dc) x)) (by kernel_rfl) P6.out.drew (fun _=>?_);refine Tl 0 (v:=.agg (askC x).toArray) rfl (Or.inl ⟨by rfl,fun wz hwz=>Xa4 wz 165 (.tmp 9) rfl ⟨g9,0,none⟩ (askC x) _ Tryd.underlying165 rfl (Xa7 HY.out) (fun j u hu=>by rw[Xac,Nat.zero_add];exact(hwz.r9.cell j).trans hu) (by go_simp)⟩) P6.out.drew ?_;try simp only[nm]
 refine Tk 1 rfl ?_ P6.out.drew ?_ ⟨?_,rfl⟩
 ·intro w hw;(try dsimp only at hw);go_simp;try with_reducible rfl
 try simp only[nm]
 refine Tk 2 rfl ?_ P6.out.drew ?_ ⟨?_,rfl⟩
 ·intro w hw;(try dsimp only at hw);go_simp;try with_reducible rfl
 try simp only[nm]
 refine Tk 3 rfl ?_ P6.out.drew ?_ ⟨?_,rfl⟩
 ·intro w hw;try dsimp only at hw
  have c51:w.cell? ⟨g5,1,none⟩=some (.slice (some ia) n c):=hw.r5.cell 1;go_simp;try with_reducible rfl
 try simp only[nm]
 refine Tk 4 rfl ?_ P6.out.drew ?_ ⟨?_,rfl⟩
 ·intro w hw;(try dsimp only at hw);go_simp;try with_reducible rfl
 try simp only[nm]
 refine Tk 5 rfl ?_ P6.out.drew ?_ ⟨?_,rfl⟩
 ·intro w hw;try dsimp only at hw
  have d0:=HD0.out _ hw.b;go_simp;try with_reducible rfl
 try simp only[nm]
 refine Tk 6 rfl ?_ P6.out.drew ?_ ⟨?_,rfl⟩
 ·intro w hw;(try dsimp only at hw);go_simp;try with_reducible rfl
 try simp only[nm]
 refine Tl 7 (v:=.agg (wrkC x (.pointer (some ⟨g,a*34,none⟩)) (.pointer none)).toArray) rfl (Or.inl ⟨by rfl,fun wz hwz=>Xao wz _ _ _ rfl (by simp only[List.map_toArray,List.map_cons,List.map_nil];exact Xdg HY.out _)⟩) P6.out.drew ?_;try simp only[nm]
 refine Rl 8 rfl fun K hK=>?_
 refine Xbm 174 rfl (wrkC ask0 (.pointer none) (.pointer none)) Xee ?_;obtain⟨h,hh⟩:∃h,h=w6.drew.heap.size:=⟨_,rfl⟩;have hba:=(Br w6.drew.heap.size w6.drew).alloc (Lr _) (.cells (wrkC ask0 (.pointer none) (.pointer none)).toArray 174);have P7:=Hd (P6.out.drew.below hba);have RH:=Hd (Row.new w6.drew 174 (wrkC ask0 (.pointer none) (.pointer none)));have HO8:=Hd ((show OutAt w6.drew w.heap.size g cap ln rest l from⟨HO7.out.row.drew,HO7.out.lo,HO7.out.len,HO7.out.room,HO7.out.all,HO7.out.ok⟩).below hba);have HH9:Hid (g9<w6.drew.heap.size∧w6.drew.heap.size≠g):=Hd ⟨P6.out.r9.lt,Ne.symm (Nat.ne_of_lt HO7.out.row.lt)⟩;rw[←hh]at RH HH9 ⊢;clear hh hba;generalize w6.drew.alloc (.cells (wrkC ask0 (.pointer none) (.pointer none)).toArray 174)=w7 at *;refine hK.out _ _ P7.out ?_;clear hK K P6 HO7;try simp only[nm]
 refine Rl 9 rfl fun K hK=>?_
 refine Xal 174 (.tmp 13) (.tmp 59) rfl h 174 0 (wrkC ask0 (.pointer none) (.pointer none)) (wrkC x (.pointer (some ⟨g,a*34,none⟩)) (.pointer none)) RH.out (Xek HY.out _ _) (by rw[Xbr HY.out,Xbr Xbc.1];decide) (Xf3 rfl rfl) (by go_simp) (by go_simp) (fun w8 hr8 ht8=>?_);rw[List.take_zero,List.nil_append,Nat.zero_add,List.drop_of_length_le (by rw[Xbr HY.out,Xbr Xbc.1];decide),List.append_nil]at hr8;have P8:Hid (DQ w w8 g5 g9 g h cap ln rest x (.pointer (some ⟨g,a*34,none⟩)) (.pointer none) l (insC p (some ia) n c D dn dc)):=Hd ⟨P7.out.but (.of_turned ht8) HH9.out.1,⟨ht8.row HO8.out.row (Ne.symm HH9.out.2),HO8.out.lo,HO8.out.len,HO8.out.room,HO8.out.all,HO8.out.ok⟩,hr8,⟨HG6.out,HH9.out.1,HH9.out.2⟩⟩;clear hr8 ht8 P7 RH HO8;refine hK.out _ _ P8.out.p ?_;clear hK K;try simp only[Act.put]
 refine wpAnyH_done (by kernel_rfl) ?_ _;have HAS:=Hd (Xdx x w8);rw[HND.out]at HAS;go_upto_region 13 with fail
 go_wp2_with (first
  | ((with_reducible show wpList _ _ _ (⟨some 60,_,_,_,_,_⟩::_) _ _);go_must(refine Xa3 rfl 165 (.tmp 9) rfl g9 165 (askC x) _ Tryd.underlying165 rfl (Xa7 HY.out) P8.out.p.r9 ?_ ?_;go_simp)))
 refine HAS.out.mono ?_;rintro e w9 ⟨rfl,hb9⟩;have P9:=Hd (P8.out.below hb9);clear hb9 HAS P8;go_upto_region 15 with fail
 refine wp_region_held_drew (S:=(fun V=>∃out,DQ w V g5 g9 g h cap ln rest x (.pointer (some ⟨g,a*34,none⟩)) (.pointer none) out (insC p (some ia) n c D dn dc))) (by kernel_rfl) ⟨l,P9.out.drew⟩ (fun _=>?_);refine Tk 1 rfl ?_ ⟨l,P9.out.drew⟩ ?_ ⟨?_,rfl⟩
 ·intro w hw;(try dsimp only at hw);go_simp;try with_reducible rfl
 try simp only[nm]
 refine Tk 2 rfl ?_ ⟨l,P9.out.drew⟩ ?_ ⟨?_,rfl⟩
 ·intro w hw;try dsimp only at hw
  obtain⟨_,hw⟩:=hw;have c90:w.cell? ⟨g9,0,none⟩=some (.int .u64 8):=(hw.p.r9.cell 0).trans (by rw[←HT.out];rfl);go_simp;try with_reducible rfl
 try simp only[nm]
 refine Rl 0 rfl fun K hK=>?_
 go_simp;refine(Xi2 _).mono ?_;rintro e we ⟨rfl,hm,hbe⟩;have PE:=Hd (P9.out.drew.below hbe);have HLK:=Hd (Xdb hm (t:=8) (by decide));clear hm hbe P9;refine hK.out _ _ ⟨l,PE.out⟩ ?_;clear hK K;try simp only[nm]
 refine Rl 3 rfl fun K hK=>?_
 refine Xdj 176 (.tmp 70) (.tmp 72) rfl _ _ _ (by go_simp) (by go_simp) HLK.out ?_;clear HLK;refine hK.out _ _ ⟨l,PE.out⟩ ?_;clear hK K;try simp only[nm]
 refine Rl 4 rfl fun K hK=>?_
 go_simp;refine(Xpu w.heap.size g h cap ln rest x HAO.out a b l _ _ (PE.out.ds HY.out) HA.out).mono ?_;rintro e wf ⟨rfl,out,hds,hRl⟩;have PF:=Hd (PE.out.deed hds);have HRL:=Hd hRl;clear hds hRl PE;refine hK.out _ _ ⟨out,PF.out⟩ ?_;clear hK K;try simp only[nm]
 refine Tk 5 rfl ?_ ⟨out,PF.out⟩ ?_ ⟨?_,rfl⟩
 ·intro w hw;(try dsimp only at hw);go_simp;try with_reducible rfl
 try simp only[nm]
 refine wpAnyH_done (by kernel_rfl) ?_ _;rw[←HDR.out]at HRL ⊢;by_cases he:(deed14 l x a b).e=0
 rotate_left
 ·have HB2:=Hd (HFL.out he);have he1:((deed14 l x a b).e==0)=false:=by simpa using he
  have he2:((deed14 l x a b).e != 0)=true:=by simpa using he
  generalize (deed14 l x a b).e=ee at *;go_wp2_with fail;go_ret3
  exact Xdi (HD1.out.trans HB2.out) PF.out.p.b
 have HN2:=Hd (HDN.out he);have HL2:=Hd (HRL.out he);have HE:=Hd he;rw[he];clear he HRL;have c92:wf.cell? ⟨g9,2,none⟩=some (.int .u64 x.space):=PF.out.p.r9.cell 2;go_upto_region 18 with fail
 go_quiet (fail)
 go_wp2_with fail;go_ret3
 exact Xff (L:=out) (n:=x.space) (HD1.out.trans (by rw[HL2.out,←HN2.out,←HE.out])) (PF.out.drewN _).outs (PF.out.drewN _).p.b
theorem Xty(l:List LAcc)(r:List LRole)(p:Int)(IA:Option Addr)(n c:Nat)(D:Option Addr)(dn dc:Nat)(acc dat:List Int)(LA:Option Addr)(ln lc:Nat)(RA:Option Addr)(rn rc:Nat)(B:Nat)(w:World)
 (hl:AccsIn w B LA ln l) (hlc:ln≤lc) (hr:RolesIn w B RA rn r) (hi:InsAt14 w B p IA n c D dn dc acc dat) (hB:B≤w.heap.size) (hn:n≤100000) (hln:ln≤100000) (hrn:rn≤100000) :
 Calls Tryd.prog 61 #[.slice LA ln lc,.slice RA rn rc,.agg (insC p IA n c D dn dc).toArray] w (DoDone w (do14 l r acc dat)):=by
 by_cases heq:ln=rn
 rotate_left
 ·exact Xo0 l r p IA n c D dn dc acc dat LA ln lc RA rn rc B w hl hlc hr hi hB hn hln hrn heq
 cases hdat:dat14 dat with
 | none=>exact Xnw l r p IA n c D dn dc acc dat LA ln lc RA rn rc B w hl hlc hr hi hB hn hln hrn heq hdat
 | some x =>
 by_cases hf:n<need14 x
 ·exact Xps l r p IA n c D dn dc acc dat LA ln lc RA rn rc B w hl hlc hr hi hB hn hln hrn heq x hdat hf
 cases ho:acc.any (byd14 ln)with
 | true=>exact Xq8 l r p IA n c D dn dc acc dat LA ln lc RA rn rc B w hl hlc hr hi hB hn hln hrn heq x hdat hf ho
 | false =>
 by_cases hp:plc14 x r acc=0
 rotate_left
 ·exact Xqa l r p IA n c D dn dc acc dat LA ln lc RA rn rc B w hl hlc hr hi hB hn hln hrn heq x hdat hf ho hp
 obtain⟨h1,h2⟩:=Xst hp;rw[hr.len,←heq]at h2;have h0:0<need14 x:=by unfold need14;split <;> omega
 obtain⟨a,ha,han⟩:=Xim (k:=0) hi.ab (by omega) h2;obtain⟨b,hb,hbn⟩:=Xim (k:=need14 x - 1) hi.ab (by omega) h2;rcases(Xbt hi.db hdat).tag with ht | ht | ht | ht
 ·exact Xt4 l r p IA n c D dn dc acc dat LA ln lc RA rn rc B w hl hlc hr hi hB hn hln hrn heq x hdat hf ho hp a b ha hb han hbn ht
 ·exact Xtc l r p IA n c D dn dc acc dat LA ln lc RA rn rc B w hl hlc hr hi hB hn hln hrn heq x hdat hf ho hp a b ha hb han hbn ht
 ·exact Xtw l r p IA n c D dn dc acc dat LA ln lc RA rn rc B w hl hlc hr hi hB hn hln hrn heq x hdat hf ho hp a b ha hb han hbn ht
 ·exact Xtt l r p IA n c D dn dc acc dat LA ln lc RA rn rc B w hl hlc hr hi hB hn hln hrn heq x hdat hf ho hp a b ha hb han hbn ht
end Go.Proofs.YtkhcgclnmdgpbaaDoor
