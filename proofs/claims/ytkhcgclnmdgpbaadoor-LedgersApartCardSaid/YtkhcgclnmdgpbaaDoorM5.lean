import Derived.Test.YtkhcgclnmdgpbaaDoorM4
set_option maxRecDepth 100000
set_option maxHeartbeats 16000000
set_option linter.unusedSimpArgs false
set_option linter.unusedVariables false
namespace Go.Proofs.YtkhcgclnmdgpbaaDoor
open Go.RowKit
theorem Xdx(x:LAsk)(w:World):Calls Tryd.prog 63 #[.agg (askC x).toArray] w fun e w'=>e=.returned (.int .i64 (need14 x))∧Below w.heap.size w w':=by
 have HB:=Hd ((Br w.heap.size w).alloc (Lr _) (.cells (askC x).toArray 165));have c0:(w.alloc (.cells (askC x).toArray 165)).cell? ⟨w.heap.size,0,none⟩=some (.int .u64 x.tag):=(Row.new w 165 (askC x)).cell 0;by_cases h0:x.tag=0
 ·have HN:Hid (need14 x=2):=Hd (Xdd (.inl h0));rw[h0]at c0;generalize hW:w.alloc (.cells (askC x).toArray 165)=W at *;have HW:=Hd hW;clear hW h0;go_enter Tryd.func63,Tryd.ntmps63
  go_upto_region 1 with fail
  rw[HW.out];go_wp2_with fail;go_ret;exact⟨by rw[HN.out];rfl,HB.out⟩
 by_cases h2:x.tag=2
 ·have HN:Hid (need14 x=2):=Hd (Xdd (.inr h2));rw[h2]at c0;generalize hW:w.alloc (.cells (askC x).toArray 165)=W at *;have HW:=Hd hW;clear hW h2 h0;go_enter Tryd.func63,Tryd.ntmps63
  go_upto_region 1 with fail
  rw[HW.out];go_wp2_with fail;go_ret;exact⟨by rw[HN.out];rfl,HB.out⟩
 have HN:Hid (need14 x=1):=Hd (Xe6 (by unfold two14;rintro(h | h);exact h0 h;exact h2 h));generalize x.tag=t at *;have e0:(t==0)=false:=by simpa using h0
 have e2:(t==2)=false:=by simpa using h2
 generalize hW:w.alloc (.cells (askC x).toArray 165)=W at *;have HW:=Hd hW;clear hW;go_enter Tryd.func63,Tryd.ntmps63
 go_upto_region 1 with fail
 rw[HW.out];go_wp2_with fail;go_ret;exact⟨by rw[HN.out];rfl,HB.out⟩
def byd14(m:Nat)(z:Int):Bool:=decide ((m:Int)≤z)
theorem Xd6{m:Nat}{l:List Int}:l.any (byd14 m)=true↔∃i ∈ l,(m:Int)≤i:=by
 rw[List.any_eq_true];exact⟨fun⟨x,h,h2⟩=>⟨x,h,of_decide_eq_true h2⟩,fun⟨x,h,h2⟩=>⟨x,h,decide_eq_true h2⟩⟩
theorem Xqj(z:Int)(tt g:Nat)(w:World)(h0:0≤z)(h1:z<256)(ct:w.cell? ⟨g,0,none⟩=some (.int .i64 tt)) :
 Calls Tryd.prog 72 #[.int .u8 z,.pointer (some ⟨g,0,none⟩)] w fun e w'=>e=.returned (.bool (byd14 tt z))∧w=w':=by
 by_cases h:(tt:Int)≤z
 ·have hp:Hid (byd14 tt z=true):=Hd (by simp[byd14,h]);go_enter Tryd.func72,Tryd.ntmps72
  go_wp2;go_ret;exact⟨Xc4 hp.out.symm,rfl⟩
 ·have hp:Hid (byd14 tt z=false):=Hd (by simp[byd14];omega);go_enter Tryd.func72,Tryd.ntmps72
  go_wp2;go_ret;exact⟨Xc4 hp.out.symm,rfl⟩
theorem Xtr(A:Option Addr)(n c B g tt:Nat)(l:List Int)(w:World)(hs:Sees w B A n (bv l))(hb:AllBytes l)(hn:n≤100000)(ct:w.cell? ⟨g,0,none⟩=some (.int .i64 tt)) :
 Calls Tryd.prog 79 #[.slice A n c,.func (.func 72) #[] #[.pointer (some ⟨g,0,none⟩)]] w fun e w'=>IdxDone (l.any (byd14 tt)) e∧w=w':=by
 have hl:l.length=n:=by have:=hs.len;rwa [bL]at this
 have HL:=Hd hl;have HB:=Hd hb;clear hl hb;go_enter Tryd.func79,Tryd.ntmps79
 go_wp2;go_loop [8] (fun i=>∃k:Nat,k≤n∧i=.int .i64 k∧(l.take k).any (byd14 tt)=false) (fun i=>n - (intOf i).toNat)
 case atStart=>exact⟨0,Nat.zero_le _,rfl,by simp⟩
 case round =>
  obtain⟨k,hk,rfl,hany⟩:=hrel;have HA:=Hd hany;clear hany;by_cases hlt:k<n
  ·obtain⟨a,rfl,hab,hc⟩:=hs.byte hlt;have hx:=Xox (l:=l) (k:=k) (by have:=HL.out;omega);have hz:=HB.out _ (List.mem_of_getElem? hx);have h0:=hz.1;have h1:=hz.2;have HX:=Hd hx;generalize l.getD k 0=z at *;have HC:=Hd (Xqj z tt g w h0 h1 ct);clear hx hz;by_cases hp:byd14 tt z=true
   ·have HP:=Hd hp;go_wp2_with (go_at_call 72;refine HC.out.mono ?_;rintro e w' ⟨rfl,rfl⟩)
    go_ret;exact⟨⟨_,rfl,by constructor;(intro _;exact Xon HX.out HP.out);(intro _;omega)⟩,rfl⟩
   ·have hp:byd14 tt z=false:=by simpa using hp
    have HP:Hid ((l.take (k+1)).any (byd14 tt)=false):=Hd (by rw[Xck HX.out,HA.out,hp];rfl);go_wp2_with (go_at_call 72;refine HC.out.mono ?_;rintro e w' ⟨rfl,rfl⟩)
    go_round
    case rel=>exact⟨k+1,by omega,by go_num,HP.out⟩
    case measure=>simp[intOf];omega
  ·have hkn:k=n:=by omega
   have HE:Hid (l.any (byd14 tt)=false):=Hd (by
    have h1:=HA.out;rwa [hkn,List.take_of_length_le (by rw[HL.out];exact Lr _)]at h1)
   clear hkn;go_wp2;go_ret;exact⟨⟨_,rfl,by rw[HE.out];simp⟩,rfl⟩
theorem Xny(A:Option Addr)(n c B g tt:Nat)(l:List Int)(w:World)(hs:Sees w B A n (bv l))(hb:AllBytes l)(hn:n≤100000)(ct:w.cell? ⟨g,0,none⟩=some (.int .i64 tt)) :
 Calls Tryd.prog 71 #[.slice A n c,.func (.func 72) #[] #[.pointer (some ⟨g,0,none⟩)]] w fun e w'=>e=.returned (.bool (l.any (byd14 tt)))∧w=w':=by
 have HI:=Hd (Xtr A n c B g tt l w hs hb hn ct);clear hs hb;go_enter Tryd.func71,Tryd.ntmps71
 go_wp2_with fail;refine HI.out.mono ?_;rintro e w' ⟨⟨r,rfl,hr⟩,rfl⟩;have HR:=Hd hr;clear hr;go_wp2_with fail;go_ret;exact⟨Xc4 (Xll HR.out),rfl⟩
theorem Xef(A:Option Addr)(n c B m:Nat)(l:List Int)(w:World)(hs:Sees w B A n (bv l))(hB:B≤w.heap.size)(hb:AllBytes l)(hn:n≤100000)(hm:m≤100000) :
 Calls Tryd.prog 64 #[.slice A n c,.int .i64 m] w fun e w'=>e=.returned (.bool (l.any (byd14 m)))∧Below w.heap.size w w':=by
 have hmf:∀(fn:Fn) (first cap:Array Value) (w:World),(Instr.makeFunc fn first cap).run Tryd.prog w=.ok (.func fn first cap) w:=fun _ _ _ _=>rfl
 have hb0:=(Br w.heap.size w).alloc (Lr _) (.cells #[.int .i64 m] 3);have HB0:=Hd hb0;have hct:(w.alloc (.cells #[.int .i64 m] 3)).cell? ⟨w.heap.size,0,none⟩=some (.int .i64 m):=(Row.new w 3 [.int .i64 m]).cell 0;have HC:=Hd (Xny A n c B w.heap.size m l _ (hs.below (hb0.mono hB)) hb hn hct);clear hb0 hct hs hb;go_enter Tryd.func64,Tryd.ntmps64
 go_wp2_with (go_at_call 71;refine HC.out.mono ?_;rintro e w' ⟨rfl,rfl⟩)
 go_ret;exact⟨rfl,HB0.out⟩
theorem Xc2(a:LAcc)(w:World)(ha:AccOk a):Calls Tryd.prog 80 #[.agg a.cells.toArray] w fun e w'=>e=.returned (.bool (decide (plain14 a)))∧Below w.heap.size w w':=by
 have RA:=Hd (Row.new w 72 a.cells);have HB:=Hd ((Br w.heap.size w).alloc (Lr _) (.cells a.cells.toArray 72));have HLT:Hid (w.heap.size<(w.alloc (.cells a.cells.toArray 72)).heap.size):=Hd RA.out.lt;have H33:Hid ((w.alloc (.cells a.cells.toArray 72)).cell? ⟨w.heap.size,33,none⟩=some (.int .u64 a.s)):=Hd ((RA.out.cell 33).trans (acc_s ha.o.1));have HK:Hid ((Tryd.prog.info? 68).map (·.size)=some (bv a.o).length):=Hd (by rw[Xb7,bL,ha.o.1]);have HC:Hid (∀j u,(bv a.o)[j]?=some u→(w.alloc (.cells a.cells.toArray 72)).cell? ((⟨w.heap.size,1,none⟩:Addr).add j)=some u):=Hd fun j u hu=>by rw[Xac];exact(RA.out.cell _).trans (acc_o hu)
 have HE:=Hd (fun w=>Xi1 ha.o.1 (show k0.length=32 from rfl) w);clear RA;generalize hW:w.alloc (.cells a.cells.toArray 72)=W at *;have HW:=Hd hW;clear hW;have hpl:plain14 a↔a.o=k0∧a.s=0:=Iff.rfl;have HP:=Hd hpl;clear hpl;obtain⟨w0,hw0⟩:∃w0,w0=w:=⟨_,rfl⟩;subst hw0;by_cases ho:a.o=k0
 ·rw[decide_eq_true ho]at HE;have HD:Hid (decide (plain14 a)=(a.s==0)):=Hd (by
   rw[Bool.eq_iff_iff,decide_eq_true_iff,beq_iff_eq,HP.out];exact⟨fun h=>h.2,fun h=>⟨ho,h⟩⟩)
  clear ho;go_enter Tryd.func80,Tryd.ntmps80
  go_upto_region 1 with fail
  rw[HW.out];clear HW;refine wp_region_held_drew (S:=(fun V=>Below W.heap.size W V)) (by kernel_rfl) (Br W.heap.size W).drew (fun _=>?_);refine Tk 0 rfl ?_ (Br W.heap.size W).drew ?_ ⟨?_,rfl⟩
  ·intro w hw;(try dsimp only at hw);go_simp;try with_reducible rfl
  try simp only[nm]
  refine Tl 1 (v:=.agg (bv a.o).toArray) rfl (Or.inl ⟨by rfl,fun wz hwz=>Xa4 wz 68 (.tmp 3) rfl ⟨w0.heap.size,1,none⟩ (bv a.o) _ Tryd.underlying68 rfl HK.out (fun j u hu=>(hwz.cell (by rw[Xac];exact HLT.out)).trans (HC.out j u hu)) (by go_simp)⟩) (Br W.heap.size W).drew ?_;try simp only[nm]
  refine Rl 2 rfl fun K hK=>?_
  go_simp;refine(Xbw _).mono ?_;rintro e w1 ⟨rfl,hb1⟩;have B1:=Hd (show Below W.heap.size W w1 from((Br W.heap.size W).drew).trans hb1);clear hb1;have NE:=HE.out;refine hK.out _ _ B1.out ?_;clear hK K;try simp only[nm]
  refine Tk 3 rfl ?_ B1.out ?_ ⟨?_,rfl⟩
  ·intro w hw;(try dsimp only at hw);go_simp;try with_reducible rfl
  try simp only[nm]
  refine Tk 4 rfl ?_ B1.out ?_ ⟨?_,rfl⟩
  ·intro w hw;(try dsimp only at hw);go_simp;try with_reducible rfl
  try simp only[nm]
  refine Tk 5 rfl ?_ B1.out ?_ ⟨?_,rfl⟩
  ·intro w hw;try dsimp only at hw
   have h33:=(hw.cell (p:=⟨w0.heap.size,33,none⟩) HLT.out).trans H33.out;go_simp;try with_reducible rfl
  try simp only[nm]
  refine Tk 6 rfl ?_ B1.out ?_ ⟨?_,rfl⟩
  ·intro w hw;try dsimp only at hw
   have h33:=(hw.cell (p:=⟨w0.heap.size,33,none⟩) HLT.out).trans H33.out;go_simp;try with_reducible rfl
  try simp only[nm]
  refine Tk 7 rfl ?_ B1.out ?_ ⟨?_,rfl⟩
  ·intro w hw;try dsimp only at hw
   have h33:=(hw.cell (p:=⟨w0.heap.size,33,none⟩) HLT.out).trans H33.out;go_simp;try with_reducible rfl
  try simp only[nm]
  refine Tk 8 rfl ?_ B1.out ?_ ⟨?_,rfl⟩
  ·intro w hw;(try dsimp only at hw);go_simp;try with_reducible rfl
  try simp only[nm]
  refine Tk 9 rfl ?_ B1.out ?_ ⟨?_,rfl⟩
  ·intro w hw;(try dsimp only at hw);go_simp;try with_reducible rfl
  try simp only[nm]
  refine wpAnyH_done (by kernel_rfl) ?_ _;go_wp2_with fail;go_ret;exact⟨by rw[HD.out];rfl,HB.out.trans (B1.out.mono HB.out.size)⟩
 ·rw[decide_eq_false ho]at HE;have HD:Hid (decide (plain14 a)=false):=Hd (decide_eq_false fun h=>ho (HP.out.1 h).1);clear ho;go_enter Tryd.func80,Tryd.ntmps80
  go_upto_region 1 with fail
  rw[HW.out];clear HW;refine wp_region_held_drew (S:=(fun V=>Below W.heap.size W V)) (by kernel_rfl) (Br W.heap.size W).drew (fun _=>?_);refine Tk 0 rfl ?_ (Br W.heap.size W).drew ?_ ⟨?_,rfl⟩
  ·intro w hw;(try dsimp only at hw);go_simp;try with_reducible rfl
  try simp only[nm]
  refine Tl 1 (v:=.agg (bv a.o).toArray) rfl (Or.inl ⟨by rfl,fun wz hwz=>Xa4 wz 68 (.tmp 3) rfl ⟨w0.heap.size,1,none⟩ (bv a.o) _ Tryd.underlying68 rfl HK.out (fun j u hu=>(hwz.cell (by rw[Xac];exact HLT.out)).trans (HC.out j u hu)) (by go_simp)⟩) (Br W.heap.size W).drew ?_;try simp only[nm]
  refine Rl 2 rfl fun K hK=>?_
  go_simp;refine(Xbw _).mono ?_;rintro e w1 ⟨rfl,hb1⟩;have B1:=Hd (show Below W.heap.size W w1 from((Br W.heap.size W).drew).trans hb1);clear hb1;have NE:=HE.out;refine hK.out _ _ B1.out ?_;clear hK K;try simp only[nm]
  refine Tk 3 rfl ?_ B1.out ?_ ⟨?_,rfl⟩
  ·intro w hw;(try dsimp only at hw);go_simp;try with_reducible rfl
  try simp only[nm]
  refine Tk 4 rfl ?_ B1.out ?_ ⟨?_,rfl⟩
  ·intro w hw;(try dsimp only at hw);go_simp;try with_reducible rfl
  try simp only[nm]
  refine Tl 5 (v:=undef) rfl (Or.inr ⟨by rfl,rfl⟩) B1.out ?_;try simp only[nm]
  refine Tl 6 (v:=undef) rfl (Or.inr ⟨by rfl,rfl⟩) B1.out ?_;try simp only[nm]
  refine Tl 7 (v:=undef) rfl (Or.inr ⟨by rfl,rfl⟩) B1.out ?_;try simp only[nm]
  refine Tk 8 rfl ?_ B1.out ?_ ⟨?_,rfl⟩
  ·intro w hw;(try dsimp only at hw);go_simp;try with_reducible rfl
  try simp only[nm]
  refine Tk 9 rfl ?_ B1.out ?_ ⟨?_,rfl⟩
  ·intro w hw;(try dsimp only at hw);go_simp;try with_reducible rfl
  try simp only[nm]
  refine wpAnyH_done (by kernel_rfl) ?_ _;go_wp2_with fail;go_ret;exact⟨by rw[HD.out];rfl,HB.out.trans (B1.out.mono HB.out.size)⟩
structure At14(w:World)(ga gr:Option Addr)(i:Nat)(k:Nat)(sg wr:Bool)(rn:Nat):Prop where
 is:∃ia ra,ga=some ia∧gr=some ra∧w.cell? (ia.add i)=some (.int .u8 k)∧w.cell? ⟨(ra.add (k*34)).block,(ra.add (k*34)).off+32,none⟩=some (.bool sg)∧w.cell? ⟨(ra.add (k*34)).block,(ra.add (k*34)).off+33,none⟩=some (.bool wr)
 k:k<rn
theorem at14{w:World}{B n rn i:Nat}{IA RA:Option Addr}{acc:List Int}{r:List LRole}(hs:Sees w B IA n (bv acc))(hb:AllBytes acc)(hr:RolesIn w B RA rn r)(hi:i<n)(hlt:∀z ∈ acc,z<(rn:Int)) :
 ∃k:Nat,acc.getD i 0=k∧k<256∧At14 w IA RA i k (rol14 r (acc.getD i 0)).sg (rol14 r (acc.getD i 0)).wr rn:=by
 have hl:=hs.len;rw[bL]at hl;obtain⟨ia,u,e1,_,hu,hc⟩:=hs.at_ hi;have hx:=Xox (l:=acc) (k:=i) (by omega);have hz:=hb _ (List.mem_of_getElem? hx);have hlz:=hlt _ (List.mem_of_getElem? hx);obtain⟨k,hk⟩:=Int.eq_ofNat_of_zero_le hz.1;rw[hk]at hx hlz;have hkr:k<rn:=by omega
 obtain⟨ra,y,e2,_,hy,hyo,hyc⟩:=hr.get hkr;have hro:=rol_at (i:=acc.getD i 0) hk hy;refine⟨k,hk,by have:=hz.2;omega,⟨⟨ia,ra,e1,e2,?_,?_,?_⟩,hkr⟩⟩
 ·have h1:(bv acc)[i]?=some (.int .u8 k):=by rw[bv_getElem?,hx];rfl
  rw[h1]at hu;cases hu
  exact hc
 ·rw[hro];exact hyc 32 _ (Xt5 hyo.1)
 ·rw[hro];exact hyc 33 _ (Xhf hyo.1)
theorem Xeg{x:LAsk}{r:List LRole}{acc:List Int}(h1:¬acc.length<need14 x)(h2:¬∃i ∈ acc,(r.length:Int)≤i):plc14 x r acc=if chk14 true (rol14 r (acc.getD 0 0))≠0 then chk14 true (rol14 r (acc.getD 0 0))else if two14 x then chk14 (decide (x.tag=0)) (rol14 r (acc.getD 1 0))else 0:=by
 unfold plc14;rw[if_neg h1,if_neg h2]
theorem Xsf(x:LAsk)(ht:x.tag=0)(IA:Option Addr)(n c:Nat)(acc:List Int)(RA:Option Addr)(rn rc:Nat)(r:List LRole)(B:Nat)(w:World)(hs:Sees w B IA n (bv acc))(hb:AllBytes acc)(hr:RolesIn w B RA rn r)(hB:B≤w.heap.size)(hn:n≤100000)(hrn:rn≤100000)(hnd:need14 x≤n)(hlt:∀z ∈ acc,z<(rn:Int)) :
 Calls Tryd.prog 65 #[.agg (askC x).toArray,.slice RA rn rc,.slice IA n c] w fun e w'=>e=.returned (.int .i64 (plc14 x r acc))∧Below w.heap.size w w':=by
 have hb0:=(Br w.heap.size w).alloc (Lr _) (.cells (askC x).toArray 165);have HB:=Hd hb0;have c0:(w.alloc (.cells (askC x).toArray 165)).cell? ⟨w.heap.size,0,none⟩=some (.int .u64 0):=((Row.new w 165 (askC x)).cell 0).trans (by rw[←ht];rfl);have hlen:acc.length=n:=by have:=hs.len;rwa [bL]at this
 have HPL:=Hd (Xeg (x:=x) (r:=r) (acc:=acc) (by omega) (by rintro⟨i,hi,h⟩;have:=hlt i hi;rw[hr.len]at h;omega));have hnn:need14 x=2:=Xdd (.inl ht);obtain⟨k0',hk0,hk0b,A0⟩:=at14 (i:=0) (hs.below (hb0.mono hB)) hb (hr.below (hb0.mono hB)) (by omega) hlt;obtain⟨⟨ia,ra,rfl,rfl,d0,s0,w0'⟩,hkr0⟩:=A0;have d0:_=_:=d0;rw[show ia.add 0=ia by simp[Addr.add]]at d0;obtain⟨k1',hk1,hk1b,A1⟩:=at14 (i:=1) (hs.below (hb0.mono hB)) hb (hr.below (hb0.mono hB)) (by omega) hlt;obtain⟨⟨ib,rb,e1,e2,d1,s1,w1'⟩,hkr1⟩:=A1;cases e1
 cases e2
 rw[show ia.add 1=⟨ia.block,ia.off+1,none⟩ by simp[Addr.add]]at d1;have hn1:(1:Int)<n:=by omega
 have hn0:(0:Int)<n:=by omega
 obtain⟨R0',hR0⟩:∃R,R=rol14 r (acc.getD 0 0):=⟨_,rfl⟩;have HR0:=Hd hR0.symm;rw[←hR0]at s0 w0';clear hR0;obtain⟨R1',hR1⟩:∃R,R=rol14 r (acc.getD 1 0):=⟨_,rfl⟩;have HR1:=Hd hR1.symm;rw[←hR1]at s1 w1';clear hR1 hk1;have HT2:Hid (two14 x):=Hd (by unfold two14;rw[ht];decide);have HTT:=Hd ht;clear hs hb hr hnd hlt hlen hb0 hnn hk0 ht;generalize hW:w.alloc (.cells (askC x).toArray 165)=W at *;have HW:=Hd hW;clear hW;cases hs0:R0'.sg with
 | false =>
  rw[hs0]at s0;go_enter Tryd.func65,Tryd.ntmps65
  go_upto_region 1 with fail
  rw[HW.out];clear HW;have HE:Hid (plc14 x r acc=14):=Hd (by rw[HPL.out,HR0.out,if_pos (by unfold chk14;rw[hs0];simp)];unfold chk14;rw[hs0];rfl);go_wp2_with fail;go_ret;exact⟨by rw[HE.out];rfl,HB.out⟩
 | true =>
  rw[hs0]at s0;cases hw0:R0'.wr with
  | false =>
   rw[hw0]at w0';go_enter Tryd.func65,Tryd.ntmps65
   go_upto_region 1 with fail
   rw[HW.out];clear HW;have HE:Hid (plc14 x r acc=15):=Hd (by rw[HPL.out,HR0.out,if_pos (by unfold chk14;rw[hs0,hw0];simp)];unfold chk14;rw[hs0,hw0];rfl);go_wp2_with fail;go_ret;exact⟨by rw[HE.out];rfl,HB.out⟩
  | true =>
   rw[hw0]at w0';cases hs1:R1'.sg with
   | false =>
    rw[hs1]at s1;go_enter Tryd.func65,Tryd.ntmps65
    go_upto_region 1 with fail
    rw[HW.out];clear HW;have HE:Hid (plc14 x r acc=14):=Hd (by
     have HDT:decide (x.tag=0)=true:=by rw[HTT.out];rfl
     rw[HPL.out,HR0.out,if_neg (by unfold chk14;rw[hs0,hw0];decide),if_pos HT2.out,HR1.out,HDT];unfold chk14;rw[hs1];rfl)
    go_wp2_with fail;go_ret;exact⟨by rw[HE.out];rfl,HB.out⟩
   | true =>
    rw[hs1]at s1;cases hw1:R1'.wr with
    | false =>
     rw[hw1]at w1';go_enter Tryd.func65,Tryd.ntmps65
     go_upto_region 1 with fail
     rw[HW.out];clear HW;have HE:Hid (plc14 x r acc=15):=Hd (by
      have HDT:decide (x.tag=0)=true:=by rw[HTT.out];rfl
      rw[HPL.out,HR0.out,if_neg (by unfold chk14;rw[hs0,hw0];decide),if_pos HT2.out,HR1.out,HDT];unfold chk14;rw[hs1,hw1];rfl)
     go_wp2_with fail;go_ret;exact⟨by rw[HE.out];rfl,HB.out⟩
    | true =>
     rw[hw1]at w1';go_enter Tryd.func65,Tryd.ntmps65
     go_upto_region 1 with fail
     rw[HW.out];clear HW;have HE:Hid (plc14 x r acc=0):=Hd (by
      have HDT:decide (x.tag=0)=true:=by rw[HTT.out];rfl
      rw[HPL.out,HR0.out,if_neg (by unfold chk14;rw[hs0,hw0];decide),if_pos HT2.out,HR1.out,HDT];unfold chk14;rw[hs1,hw1];rfl)
     go_wp2_with fail;go_ret;exact⟨by rw[HE.out];rfl,HB.out⟩
theorem Xrl(x:LAsk)(ht:x.tag=1)(IA:Option Addr)(n c:Nat)(acc:List Int)(RA:Option Addr)(rn rc:Nat)(r:List LRole)(B:Nat)(w:World)(hs:Sees w B IA n (bv acc))(hb:AllBytes acc)(hr:RolesIn w B RA rn r)(hB:B≤w.heap.size)(hn:n≤100000)(hrn:rn≤100000)(hnd:need14 x≤n)(hlt:∀z ∈ acc,z<(rn:Int)) :
 Calls Tryd.prog 65 #[.agg (askC x).toArray,.slice RA rn rc,.slice IA n c] w fun e w'=>e=.returned (.int .i64 (plc14 x r acc))∧Below w.heap.size w w':=by
 have hb0:=(Br w.heap.size w).alloc (Lr _) (.cells (askC x).toArray 165);have HB:=Hd hb0;have c0:(w.alloc (.cells (askC x).toArray 165)).cell? ⟨w.heap.size,0,none⟩=some (.int .u64 1):=((Row.new w 165 (askC x)).cell 0).trans (by rw[←ht];rfl);have hlen:acc.length=n:=by have:=hs.len;rwa [bL]at this
 have HPL:=Hd (Xeg (x:=x) (r:=r) (acc:=acc) (by omega) (by rintro⟨i,hi,h⟩;have:=hlt i hi;rw[hr.len]at h;omega));have hnn:need14 x=1:=Xe6 (by unfold two14;rw[ht];decide);obtain⟨k0',hk0,hk0b,A0⟩:=at14 (i:=0) (hs.below (hb0.mono hB)) hb (hr.below (hb0.mono hB)) (by omega) hlt;obtain⟨⟨ia,ra,rfl,rfl,d0,s0,w0'⟩,hkr0⟩:=A0;have d0:_=_:=d0;rw[show ia.add 0=ia by simp[Addr.add]]at d0;have hn0:(0:Int)<n:=by omega
 obtain⟨R0',hR0⟩:∃R,R=rol14 r (acc.getD 0 0):=⟨_,rfl⟩;have HR0:=Hd hR0.symm;rw[←hR0]at s0 w0';clear hR0;have HT2:Hid (¬two14 x):=Hd (by unfold two14;rw[ht];decide);have HTT:=Hd ht;clear hs hb hr hnd hlt hlen hb0 hnn hk0 ht;generalize hW:w.alloc (.cells (askC x).toArray 165)=W at *;have HW:=Hd hW;clear hW;cases hs0:R0'.sg with
 | false =>
  rw[hs0]at s0;go_enter Tryd.func65,Tryd.ntmps65
  go_upto_region 1 with fail
  rw[HW.out];clear HW;have HE:Hid (plc14 x r acc=14):=Hd (by rw[HPL.out,HR0.out,if_pos (by unfold chk14;rw[hs0];simp)];unfold chk14;rw[hs0];rfl);go_wp2_with fail;go_ret;exact⟨by rw[HE.out];rfl,HB.out⟩
 | true =>
  rw[hs0]at s0;cases hw0:R0'.wr with
  | false =>
   rw[hw0]at w0';go_enter Tryd.func65,Tryd.ntmps65
   go_upto_region 1 with fail
   rw[HW.out];clear HW;have HE:Hid (plc14 x r acc=15):=Hd (by rw[HPL.out,HR0.out,if_pos (by unfold chk14;rw[hs0,hw0];simp)];unfold chk14;rw[hs0,hw0];rfl);go_wp2_with fail;go_ret;exact⟨by rw[HE.out];rfl,HB.out⟩
  | true =>
   rw[hw0]at w0';go_enter Tryd.func65,Tryd.ntmps65
   go_upto_region 1 with fail
   rw[HW.out];clear HW;have HE:Hid (plc14 x r acc=0):=Hd (by rw[HPL.out,HR0.out,if_neg (by unfold chk14;rw[hs0,hw0];decide),if_neg HT2.out]);go_wp2_with fail;go_ret;exact⟨by rw[HE.out];rfl,HB.out⟩
theorem Xsm(x:LAsk)(ht:x.tag=2)(IA:Option Addr)(n c:Nat)(acc:List Int)(RA:Option Addr)(rn rc:Nat)(r:List LRole)(B:Nat)(w:World)(hs:Sees w B IA n (bv acc))(hb:AllBytes acc)(hr:RolesIn w B RA rn r)(hB:B≤w.heap.size)(hn:n≤100000)(hrn:rn≤100000)(hnd:need14 x≤n)(hlt:∀z ∈ acc,z<(rn:Int)) :
 Calls Tryd.prog 65 #[.agg (askC x).toArray,.slice RA rn rc,.slice IA n c] w fun e w'=>e=.returned (.int .i64 (plc14 x r acc))∧Below w.heap.size w w':=by
 have hb0:=(Br w.heap.size w).alloc (Lr _) (.cells (askC x).toArray 165);have HB:=Hd hb0;have c0:(w.alloc (.cells (askC x).toArray 165)).cell? ⟨w.heap.size,0,none⟩=some (.int .u64 2):=((Row.new w 165 (askC x)).cell 0).trans (by rw[←ht];rfl);have hlen:acc.length=n:=by have:=hs.len;rwa [bL]at this
 have HPL:=Hd (Xeg (x:=x) (r:=r) (acc:=acc) (by omega) (by rintro⟨i,hi,h⟩;have:=hlt i hi;rw[hr.len]at h;omega));have hnn:need14 x=2:=Xdd (.inr ht);obtain⟨k0',hk0,hk0b,A0⟩:=at14 (i:=0) (hs.below (hb0.mono hB)) hb (hr.below (hb0.mono hB)) (by omega) hlt;obtain⟨⟨ia,ra,rfl,rfl,d0,s0,w0'⟩,hkr0⟩:=A0;have d0:_=_:=d0;rw[show ia.add 0=ia by simp[Addr.add]]at d0;obtain⟨k1',hk1,hk1b,A1⟩:=at14 (i:=1) (hs.below (hb0.mono hB)) hb (hr.below (hb0.mono hB)) (by omega) hlt;obtain⟨⟨ib,rb,e1,e2,d1,s1,w1'⟩,hkr1⟩:=A1;cases e1
 cases e2
 rw[show ia.add 1=⟨ia.block,ia.off+1,none⟩ by simp[Addr.add]]at d1;have hn1:(1:Int)<n:=by omega
 have hn0:(0:Int)<n:=by omega
 obtain⟨R0',hR0⟩:∃R,R=rol14 r (acc.getD 0 0):=⟨_,rfl⟩;have HR0:=Hd hR0.symm;rw[←hR0]at s0 w0';clear hR0;obtain⟨R1',hR1⟩:∃R,R=rol14 r (acc.getD 1 0):=⟨_,rfl⟩;have HR1:=Hd hR1.symm;rw[←hR1]at s1 w1';clear hR1 hk1;have HT2:Hid (two14 x):=Hd (by unfold two14;rw[ht];decide);have HTT:=Hd ht;clear hs hb hr hnd hlt hlen hb0 hnn hk0 ht;generalize hW:w.alloc (.cells (askC x).toArray 165)=W at *;have HW:=Hd hW;clear hW;cases hs0:R0'.sg with
 | false =>
  rw[hs0]at s0;go_enter Tryd.func65,Tryd.ntmps65
  go_upto_region 1 with fail
  rw[HW.out];clear HW;have HE:Hid (plc14 x r acc=14):=Hd (by rw[HPL.out,HR0.out,if_pos (by unfold chk14;rw[hs0];simp)];unfold chk14;rw[hs0];rfl);go_wp2_with fail;go_ret;exact⟨by rw[HE.out];rfl,HB.out⟩
 | true =>
  rw[hs0]at s0;cases hw0:R0'.wr with
  | false =>
   rw[hw0]at w0';go_enter Tryd.func65,Tryd.ntmps65
   go_upto_region 1 with fail
   rw[HW.out];clear HW;have HE:Hid (plc14 x r acc=15):=Hd (by rw[HPL.out,HR0.out,if_pos (by unfold chk14;rw[hs0,hw0];simp)];unfold chk14;rw[hs0,hw0];rfl);go_wp2_with fail;go_ret;exact⟨by rw[HE.out];rfl,HB.out⟩
  | true =>
   rw[hw0]at w0';cases hw1:R1'.wr with
   | false =>
    rw[hw1]at w1';go_enter Tryd.func65,Tryd.ntmps65
    go_upto_region 1 with fail
    rw[HW.out];clear HW;have HE:Hid (plc14 x r acc=15):=Hd (by
     have HDT:decide (x.tag=0)=false:=by rw[HTT.out];rfl
     rw[HPL.out,HR0.out,if_neg (by unfold chk14;rw[hs0,hw0];decide),if_pos HT2.out,HR1.out,HDT];unfold chk14;rw[hw1];rfl)
    go_wp2_with fail;go_ret;exact⟨by rw[HE.out];rfl,HB.out⟩
   | true =>
    rw[hw1]at w1';go_enter Tryd.func65,Tryd.ntmps65
    go_upto_region 1 with fail
    rw[HW.out];clear HW;have HE:Hid (plc14 x r acc=0):=Hd (by
     have HDT:decide (x.tag=0)=false:=by rw[HTT.out];rfl
     rw[HPL.out,HR0.out,if_neg (by unfold chk14;rw[hs0,hw0];decide),if_pos HT2.out,HR1.out,HDT];unfold chk14;rw[hw1];rfl)
    go_wp2_with fail;go_ret;exact⟨by rw[HE.out];rfl,HB.out⟩
theorem Xsi(x:LAsk)(ht:x.tag=8)(IA:Option Addr)(n c:Nat)(acc:List Int)(RA:Option Addr)(rn rc:Nat)(r:List LRole)(B:Nat)(w:World)(hs:Sees w B IA n (bv acc))(hb:AllBytes acc)(hr:RolesIn w B RA rn r)(hB:B≤w.heap.size)(hn:n≤100000)(hrn:rn≤100000)(hnd:need14 x≤n)(hlt:∀z ∈ acc,z<(rn:Int)) :
 Calls Tryd.prog 65 #[.agg (askC x).toArray,.slice RA rn rc,.slice IA n c] w fun e w'=>e=.returned (.int .i64 (plc14 x r acc))∧Below w.heap.size w w':=by
 have hb0:=(Br w.heap.size w).alloc (Lr _) (.cells (askC x).toArray 165);have HB:=Hd hb0;have c0:(w.alloc (.cells (askC x).toArray 165)).cell? ⟨w.heap.size,0,none⟩=some (.int .u64 8):=((Row.new w 165 (askC x)).cell 0).trans (by rw[←ht];rfl);have hlen:acc.length=n:=by have:=hs.len;rwa [bL]at this
 have HPL:=Hd (Xeg (x:=x) (r:=r) (acc:=acc) (by omega) (by rintro⟨i,hi,h⟩;have:=hlt i hi;rw[hr.len]at h;omega));have hnn:need14 x=1:=Xe6 (by unfold two14;rw[ht];decide);obtain⟨k0',hk0,hk0b,A0⟩:=at14 (i:=0) (hs.below (hb0.mono hB)) hb (hr.below (hb0.mono hB)) (by omega) hlt;obtain⟨⟨ia,ra,rfl,rfl,d0,s0,w0'⟩,hkr0⟩:=A0;have d0:_=_:=d0;rw[show ia.add 0=ia by simp[Addr.add]]at d0;have hn0:(0:Int)<n:=by omega
 obtain⟨R0',hR0⟩:∃R,R=rol14 r (acc.getD 0 0):=⟨_,rfl⟩;have HR0:=Hd hR0.symm;rw[←hR0]at s0 w0';clear hR0;have HT2:Hid (¬two14 x):=Hd (by unfold two14;rw[ht];decide);have HTT:=Hd ht;clear hs hb hr hnd hlt hlen hb0 hnn hk0 ht;generalize hW:w.alloc (.cells (askC x).toArray 165)=W at *;have HW:=Hd hW;clear hW;cases hs0:R0'.sg with
 | false =>
  rw[hs0]at s0;go_enter Tryd.func65,Tryd.ntmps65
  go_upto_region 1 with fail
  rw[HW.out];clear HW;have HE:Hid (plc14 x r acc=14):=Hd (by rw[HPL.out,HR0.out,if_pos (by unfold chk14;rw[hs0];simp)];unfold chk14;rw[hs0];rfl);go_wp2_with fail;go_ret;exact⟨by rw[HE.out];rfl,HB.out⟩
 | true =>
  rw[hs0]at s0;cases hw0:R0'.wr with
  | false =>
   rw[hw0]at w0';go_enter Tryd.func65,Tryd.ntmps65
   go_upto_region 1 with fail
   rw[HW.out];clear HW;have HE:Hid (plc14 x r acc=15):=Hd (by rw[HPL.out,HR0.out,if_pos (by unfold chk14;rw[hs0,hw0];simp)];unfold chk14;rw[hs0,hw0];rfl);go_wp2_with fail;go_ret;exact⟨by rw[HE.out];rfl,HB.out⟩
  | true =>
   rw[hw0]at w0';go_enter Tryd.func65,Tryd.ntmps65
   go_upto_region 1 with fail
   rw[HW.out];clear HW;have HE:Hid (plc14 x r acc=0):=Hd (by rw[HPL.out,HR0.out,if_neg (by unfold chk14;rw[hs0,hw0];decide),if_neg HT2.out]);go_wp2_with fail;go_ret;exact⟨by rw[HE.out];rfl,HB.out⟩
theorem Xdp(x:LAsk)(ho:AskOk x)(IA:Option Addr)(n c:Nat)(acc:List Int)(RA:Option Addr)(rn rc:Nat)(r:List LRole)(B:Nat)(w:World)(hs:Sees w B IA n (bv acc))(hb:AllBytes acc)(hr:RolesIn w B RA rn r)(hB:B≤w.heap.size)(hn:n≤100000)(hrn:rn≤100000)(hnd:need14 x≤n)(hlt:∀z ∈ acc,z<(rn:Int)) :
 Calls Tryd.prog 65 #[.agg (askC x).toArray,.slice RA rn rc,.slice IA n c] w fun e w'=>e=.returned (.int .i64 (plc14 x r acc))∧Below w.heap.size w w':=by
 rcases ho.tag with h | h | h | h
 ·exact Xsf x h IA n c acc RA rn rc r B w hs hb hr hB hn hrn hnd hlt
 ·exact Xrl x h IA n c acc RA rn rc r B w hs hb hr hB hn hrn hnd hlt
 ·exact Xsm x h IA n c acc RA rn rc r B w hs hb hr hB hn hrn hnd hlt
 ·exact Xsi x h IA n c acc RA rn rc r B w hs hb hr hB hn hrn hnd hlt
end Go.Proofs.YtkhcgclnmdgpbaaDoor
