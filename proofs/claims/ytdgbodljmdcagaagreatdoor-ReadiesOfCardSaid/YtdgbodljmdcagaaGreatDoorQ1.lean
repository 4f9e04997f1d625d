import Derived.Test.YtdgbodljmdcagaaGreatDoorChecked
import Derived.WalkKit
import Derived.LaidEql
import Derived.Stop.Asserts
import Derived.RowKitTokens
import Derived.Lib.IfaceEq
import Derived.Lib.Hide
import Derived.Below
import Derived.Laws.OwnMore
import Derived.Deep.AppendLies
import Derived.Deep.Draws
import Derived.Laws.MakeOwn
import Derived.Laws.CopyOwn
import Derived.Laws.Rows
import Derived.Maps.AppendAt
import Derived.OwnWalk
import Derived.Laws.BitsAllLaws
import Derived.Test.YtdgbodljmdcagaaGreatDoorRows
import Derived.WalkSpells
import Derived.WalkLawsBesides
import Derived.IntWalk
import Derived.Deep.QuietTactic
import Derived.BigQuiet
import Derived.Deep.MidRow
import Derived.Deep.WholeRow
set_option maxRecDepth 100000
set_option maxHeartbeats 16000000
set_option linter.unusedSimpArgs false
set_option linter.unusedVariables false
namespace Go.Proofs.YtdgbodljmdcagaaGreatDoor
open Go.RowKit Go.Extern.Stop Go.Stop Go.Extern
theorem Hd {p:Prop} (h:p):Hid p:=Lib.hid h
theorem Br(B:Nat)(w:World):Below B w w:=Below.refl B w
theorem Lr(n:Nat):n≤n:=Nat.le_refl n
theorem Lq{a b c:Nat}(h:a≤b)(k:b≤c):a≤c:=Nat.le_trans h k
theorem nm:(∀(a:Act) (d:Tmp) (v:Value),a.put (some d) v={a with tmps:=a.tmps.setIfInBounds d v})∧(∀(a:Act) (v:Value),a.put none v=a)∧(∀(α:Type) (l:List α) (i:Nat) (x:α),l.toArray.setIfInBounds i x=(l.set i x).toArray)∧(∀(α:Type) (a b:α) (l:List α),(a::l).set 0 b=b::l)∧(∀(α:Type) (a b:α) (l:List α) (n:Nat),(a::l).set (n+1) b=a::l.set n b):=⟨fun _ _ _=>rfl,fun _ _=>rfl,fun _ _ _ _=>by simp,fun _ _ _ _=>rfl,fun _ _ _ _ _=>rfl⟩
theorem Xoh(v:Value)(w:World):(callFunc 130 #[.iface 49 v]).run Tryz.prog w=.ok (.value (.iface 217 (.agg #[.pointer (some ⟨3,49,none⟩)]))) w:=by kernel_rfl
theorem Xir(w:World):(callFunc 201 #[.agg #[.pointer (some ⟨3,49,none⟩)]]).run Tryz.prog w=.ok (.value (.bool true)) w:=by kernel_rfl
theorem Xfa (v : Value) (w : World) : (Go.method 387 217 v "Comparable").run Tryz.prog w = .ok (201, v) w := by kernel_rfl
theorem Xst:(Tryz.prog.info? 49).map (·.comparable)=some true:=by kernel_rfl
theorem noIs11(v:Value)(xT:TypeId)(w:World):(Instr.typeAssert (.iface 49 v) xT 219 true).run Tryz.prog w=.ok (.tuple #[.nilIface,.bool false]) w:=run_typeAssert_lacksB Tryz.underlying219 (by kernel_rfl) (by kernel_rfl) v xT w
theorem Xp3(v:Value)(xT:TypeId)(w:World):(Instr.typeAssert (.iface 49 v) xT 222 true).run Tryz.prog w=.ok (.tuple #[.nilIface,.bool false]) w:=run_typeAssert_lacksB Tryz.underlying222 (by kernel_rfl) (by kernel_rfl) v xT w
theorem Xm9(v:Value)(xT:TypeId)(w:World):(Instr.typeAssert (.iface 49 v) xT 224 true).run Tryz.prog w=.ok (.tuple #[.nilIface,.bool false]) w:=run_typeAssert_lacksB Tryz.underlying224 (by kernel_rfl) (by kernel_rfl) v xT w
theorem is11(a b:Int)(w:World) :
 Calls Tryz.prog 131 #[.iface 49 (.int .i64 a),.iface 49 (.int .i64 b),.bool true] w fun e w'=>e=.returned (.bool (a==b))∧w'=w:=by
 have heq:=Go.Lib.run_eql_iface_int (P:=Tryz.prog) w (k:=.i64) a b Tryz.underlying191 Xst Tryz.underlying49;have nE:=noIs11;have uE:=Xp3;have vE:=Xm9;cases hc:(a==b)
 all_goals
  rw[hc]at heq;clear hc;go_enter Tryz.func131,Tryz.ntmps131
  go_wp2;refine wp_loop_rounds 1 ?_;rw[rounds_succ];go_wp2;go_ret;exact⟨rfl,rfl⟩
theorem Xwg(a b:Int)(w:World) :
 Calls Tryz.prog 84 #[.iface 49 (.int .i64 a),.iface 49 (.int .i64 b)] w fun e w'=>e=.returned (.bool (a==b))∧w'=w:=by
 have tT:=Xoh;have cT:=Xir;have mR:=Xfa;have HI:=Hd (is11 a b w);go_enter Tryz.func84,Tryz.ntmps84
 go_wp2_with (go_at_call 131;refine HI.out.mono ?_;rintro e w' ⟨rfl,rfl⟩)
 go_ret;exact⟨rfl,rfl⟩
theorem Xcx(a:Int)(w:World) :
 Calls Tryz.prog 40 #[.int .i64 a] w fun e w'=>e=.returned (.bool (decide (a≠0)))∧w'=w:=by
 have HI:=Hd (Xwg a 0 w);have e1:(a==0)=decide (a=0):=rfl;rw[e1]at HI;by_cases h:a=0
 ·rw[show decide (a≠0)=false from decide_eq_false (by simpa using h)];rw[show decide (a=0)=true from decide_eq_true h]at HI;clear h e1;go_enter Tryz.func40,Tryz.ntmps40
  go_wp2_with (go_at_call 84;refine HI.out.mono ?_;rintro e w' ⟨rfl,rfl⟩)
  go_ret;exact⟨rfl,rfl⟩
 ·rw[show decide (a≠0)=true from decide_eq_true h];rw[show decide (a=0)=false from decide_eq_false h]at HI;clear h e1;go_enter Tryz.func40,Tryz.ntmps40
  go_wp2_with (go_at_call 84;refine HI.out.mono ?_;rintro e w' ⟨rfl,rfl⟩)
  go_ret;exact⟨rfl,rfl⟩
open Go.RowKit
def cv(k:IntKind)(zs:List Int):List Value:=zs.map (Value.int k)
def bv(zs:List Int):List Value:=cv .u8 zs
theorem Xdj(k:IntKind)(zs:List Int):(cv k zs).length=zs.length:=by simp[cv]
theorem bL(zs:List Int):(bv zs).length=zs.length:=Xdj _ zs
theorem Xbt(xs ys:List Int):bv (xs++ys)=bv xs++bv ys:=by simp[bv,cv]
theorem bv_getElem?(zs:List Int)(i:Nat):(bv zs)[i]?=zs[i]?.map (Value.int .u8):=by simp[bv,cv]
theorem bv_at{zs:List Int}{i:Nat}(h:i<zs.length):(bv zs)[i]?=some (.int .u8 (zs.getD i 0)):=by
 rw[bv_getElem?,List.getD_eq_getElem?_getD,List.getElem?_eq_getElem h];rfl
theorem Xae(zs:List Int):∀u ∈ bv zs,u.oneCell'=true:=by
 intro u hu;simp only[bv,cv,List.mem_map]at hu;obtain⟨z,_,rfl⟩:=hu;rfl
theorem Xsr{p:Prop}[Decidable p](h:p):Ending.returned (.bool true)=.returned (.bool (decide p)):=by rw[decide_eq_true h]
theorem Xj7{p:Prop}[Decidable p](h:¬p):Ending.returned (.bool false)=.returned (.bool (decide p)):=by rw[decide_eq_false h]
theorem Xa7(a:Addr)(n:Nat):(a.add n).block=a.block:=by unfold Addr.add;split <;> rfl
theorem Xbr(a:Addr)(i j:Nat):(a.add i).add j=a.add (i+j):=by
 unfold Addr.add;rcases Nat.eq_zero_or_pos i with hi | hi <;> rcases Nat.eq_zero_or_pos j with hj | hj
 ·simp[hi,hj]
 ·simp[hi,show j≠0 by omega]
 ·simp[hj,show i≠0 by omega]
 ·simp[show i≠0 by omega,show j≠0 by omega,Nat.add_assoc]
theorem Xa5(g i j:Nat):(⟨g,i,none⟩:Addr).add j=⟨g,i+j,none⟩:=by unfold Addr.add;split <;> simp_all
structure Sees(w:World)(B:Nat)(A:Option Addr)(n:Nat)(xs:List Value):Prop where
 len:xs.length=n
 cell:∀i u,xs[i]?=some u→∃a,A=some a∧a.block<B∧w.cell? (a.add i)=some u
section
variable{w w':World}{B B' n:Nat}{A:Option Addr}{xs:List Value}
theorem Sees.nil(w:World)(B:Nat)(A:Option Addr):Sees w B A 0 []:=⟨rfl,fun i u h=>by simp at h⟩
theorem Sees.keep(h:Sees w B A n xs)(hk:∀p:Addr,p.block<B→w'.cell? p=w.cell? p):Sees w' B A n xs:=
 ⟨h.len,fun i u hu=>by
  obtain⟨a,e,hb,hc⟩:=h.cell i u hu;exact⟨a,e,hb,(hk _ (by rw[Xa7];exact hb)).trans hc⟩⟩
theorem Sees.more(h:Sees w B A n xs)(hB:B≤B'):Sees w B' A n xs:=
 ⟨h.len,fun i u hu=>by
  obtain⟨a,e,hb,hc⟩:=h.cell i u hu;exact⟨a,e,by omega,hc⟩⟩
theorem Sees.below(h:Sees w B A n xs)(hb:Below B w w'):Sees w' B A n xs:=h.keep fun _ hp=>hb.cell hp
theorem Sees.drew(h:Sees w B A n xs):Sees w.drew B A n xs:=⟨h.len,h.cell⟩
theorem Sees.drewN(h:Sees w B A n xs)(k:Nat):Sees (w.drewN k) B A n xs:=⟨h.len,h.cell⟩
theorem Sees.at_{k:Nat}(h:Sees w B A n xs)(hk:k<n):∃a u,A=some a∧a.block<B∧xs[k]?=some u∧w.cell? (a.add k)=some u:=by
 have hl:k<xs.length:=by have:=h.len;omega
 obtain⟨a,e,hb,hc⟩:=h.cell k _ (List.getElem?_eq_getElem hl);exact⟨a,_,e,hb,List.getElem?_eq_getElem hl,hc⟩
theorem Sees.byte{zs:List Int}{k:Nat}(h:Sees w B A n (bv zs))(hk:k<n):∃a,A=some a∧a.block<B∧w.cell? (a.add k)=some (.int .u8 (zs.getD k 0)):=by
 obtain⟨a,u,e,hb,hx,hc⟩:=h.at_ hk;have hl:k<zs.length:=by have:=h.len;rw[bL]at this;omega
 rw[bv_at hl]at hx;cases hx
 exact⟨a,e,hb,hc⟩
theorem Sees.of_own{base:Nat}{e:TypeId}{c:Nat}(h:w.ownsRow base e 1 (.slice A n c) n xs):Sees w w.heap.size A n xs:=by
 refine⟨by have:=h.1;omega,fun i u hu=>?_⟩;have hl:i<xs.length:=(List.getElem?_eq_some_iff.1 hu).1;rcases h.2 with⟨_,rfl⟩ | ⟨g,cap,cur,hv,hg,hh,hnc,_,hsz,htk⟩
 ·have:=h.1;omega
 ·have hA:A=some ⟨g,0,none⟩:=by injection hv
  subst hA;exact⟨_,rfl,(Array.getElem?_eq_some_iff.1 hh).1,h.cells (g:=g) rfl i u hu⟩
end
structure Row(w:World)(g:Nat)(t:TypeId)(xs:List Value):Prop where
 is:w.heap[g]?=some (.cells xs.toArray t (0,0))
section
variable{w w':World}{g:Nat}{t:TypeId}{xs:List Value}
theorem Row.lt(h:Row w g t xs):g<w.heap.size:=(Array.getElem?_eq_some_iff.1 h.is).1
theorem Row.cell(h:Row w g t xs)(i:Nat):w.cell? ⟨g,i,none⟩=xs[i]?:=by rw[cell_of_row w g i xs.toArray t (0,0) h.is];simp
theorem Row.frozen(h:Row w g t xs)(i:Nat):w.frozen? ⟨g,i,none⟩=false:=by
 have:=h.is;simp[World.frozen?,this]
theorem Row.new(w:World)(t:TypeId)(xs:List Value):Row (w.alloc (.cells xs.toArray t)) w.heap.size t xs:=⟨heap_alloc_new w _⟩
theorem Row.new'(w:World)(t:TypeId)(xs:List Value){g:Nat}(hg:w.heap.size=g):Row (w.alloc (.cells xs.toArray t)) g t xs:=hg ▸ Row.new w t xs
theorem Row.drew(h:Row w g t xs):Row w.drew g t xs:=⟨h.is⟩
theorem Row.drewN(h:Row w g t xs)(n:Nat):Row (w.drewN n) g t xs:=⟨h.is⟩
theorem Row.alloc(h:Row w g t xs)(o:Obj):Row (w.alloc o) g t xs:=⟨(Below.heap_alloc w o g h.lt).trans h.is⟩
theorem Row.set_(h:Row w g t xs)(i:Nat)(u:Value):Row (w.setCell ⟨g,i,none⟩ u) g t (xs.set i u):=by
 have:=h.is;exact⟨by simp[World.setCell,Array.getElem?_modify,this]⟩
theorem Row.far(h:Row w g t xs){p:Addr}(hp:g≠p.block)(u:Value):Row (w.setCell p u) g t xs:=⟨(Below.heap_setCell w p u g hp).trans h.is⟩
theorem Row.below{B:Nat}(h:Row w g t xs)(hb:Below B w w')(hg:g<B):Row w' g t xs:=⟨(hb.block g hg).trans h.is⟩
theorem Row.grown{row:Option Nat}(h:Row w g t xs)(hb:w.grownBy w' row)(hg:some g≠row):Row w' g t xs:=⟨(hb.block g h.lt hg).trans h.is⟩
theorem Row.sees(h:Row w g t xs)(o:Nat):Sees w w.heap.size (some ⟨g,o,none⟩) (xs.length - o) (xs.drop o):=
 ⟨by simp,fun i u hu=>⟨_,rfl,h.lt,by rw[Xa5,h.cell];simpa using hu⟩⟩
theorem Row.sees0(h:Row w g t xs):Sees w w.heap.size (some ⟨g,0,none⟩) xs.length xs:=by simpa using h.sees 0
theorem Row.of_own{base:Nat}{n:Nat}(h:w.ownsRow base t 1 (.slice (some ⟨g,0,none⟩) n n) n xs):Row w g t xs:=by
 rcases h.2 with⟨hv,_⟩ | ⟨g',cap,cur,hv,_,hh,_,_,hs,ht⟩
 ·cases hv
 ·cases hv
  have:cur=xs.toArray:=by
   rw[←ht,List.take_of_length_le (by simp;omega)]
  exact⟨by rw[hh,this]⟩
end
section
variable{P:Program}{w:World}{base:Nat}{t ty e:TypeId}{i:TypeInfo}{z:Value}{bytes:Nat}{v:Value}{n m c B:Nat}{A:Option Addr}{xs news:List Value}
theorem Xfz(ht:P.underlying t=some (.slice e))(hi:P.info? e=some i)(hown:w.ownsRow base e 1 v n xs)(c:Nat) :
 (Builtin.append_ #[t,t] ty #[v,.slice none 0 c]).run P w=.ok v w:=by
 rcases hown.2 with⟨rfl,rfl⟩ | ⟨g,cap,cur,rfl,_,_,hnc,_⟩ <;>
  simp[Builtin.append_,run_underlying ht,sizeOf,typeInfo,Builtin.lenOf,Builtin.firstCells,storeCells, *]
theorem Xhe(ht:P.underlying t=some (.slice e))(hi:P.info? e=some i)(hz:i.zero=some z)(hsize:i.size=1)(hby:i.bytes=bytes)(hzs:z.cells.size=1)
 (hown:w.ownsRow base e 1 v n xs) (hr:Sees w B A m news) (h1:∀u ∈ news,u.oneCell'=true) (hnm:n+m≤maxLen) (hbytes:(n+m)*bytes≤140737488355328) (hbase:base≤w.heap.size) (c:Nat) :
 ∃v' w',(Builtin.append_ #[t,t] ty #[v,.slice A m c]).run P w=.ok v' w'∧w'.ownsRow base e 1 v' (n+m) (xs++news)∧w.grownBy w' v.ownBlock∧(v'.ownBlock=v.ownBlock∨v'.ownBlock=some w.heap.size):=by
 cases A with
 | none =>
  have hn:news=[]:=by
   cases news with
   | nil=>rfl
   | cons u r =>
    obtain⟨a,h,_⟩:=hr.cell 0 u rfl;cases h
  subst hn;obtain rfl:m=0:=by simpa using hr.len.symm
  exact⟨v,w,Xfz ht hi hown c,by simpa using hown,World.grownBy.refl w _,.inl rfl⟩
 | some ad =>
  obtain⟨v',w',hrun,h2,h3,_,h5⟩:=run_append_own_at (P:=P) w base t ty e i z 1 bytes ht hi hz hsize hby hzs (by omega) v n xs hown ad m c news (by rw[hr.len];omega)
   (fun j u hu=>by
     obtain⟨a,h,_,hc⟩:=hr.cell j u hu;cases h
     exact hc) h1 hnm hbytes hbase
  exact⟨v',w',hrun,h2,h3,h5⟩
theorem Xam{o:Oper}{a:Act}{K:Act→World→Prop}{Q:Exit→Act→World→Prop}(s x:Operand)
 (ho:o.op=.call { callee:=.builtin .append,args:=#[s,x],argTypes:=#[t,t] })
 (ht:P.underlying t=some (.slice e)) (hi:P.info? e=some i) (hz:i.zero=some z) (hsize:i.size=1) (hby:i.bytes=bytes) (hzs:z.cells.size=1)
 (hs:a.eval s=v) (hown:w.ownsRow base e 1 v n xs) (hx:a.eval x=.slice A m c) (hr:Sees w B A m news) (h1:∀u ∈ news,u.oneCell'=true)
 (hnm:n+m≤maxLen) (hbytes:(n+m)*bytes≤140737488355328) (hbase:base≤w.heap.size)
 (h:∀v' w',w'.ownsRow base e 1 v' (n+m) (xs++news)→w.grownBy w' v.ownBlock→(v'.ownBlock=v.ownBlock∨v'.ownBlock=some w.heap.size)→K (a.put o.dst v') w'):o.wp P a w K Q:=by
 obtain⟨v',w',hrun,h2,h3,h4⟩:=Xhe (P:=P) (ty:=o.type) ht hi hz hsize hby hzs hown hr h1 hnm hbytes hbase c;unfold Oper.wp execOp;simp only[ho,resolve,invoke,builtin,Sem.run_bind,Sem.run_pure,Result.andThen_ok,List.map_toArray,List.map_cons,List.map_nil,hs,hx,hrun];exact h v' w' h2 h3 h4
theorem Xbw{ops:Array Oper}{rest:List Oper}{o:Oper}{a:Act}{Q:Exit→Act→World→Prop}(hgd:o.guard=none)(s x:Operand)(t:TypeId)
 (ho:o.op=.call { callee:=.builtin .append,args:=#[s,x],argTypes:=#[t,t] })
 (base:Nat) (e:TypeId) (i:TypeInfo) (z:Value) (bytes:Nat)
 (ht:P.underlying t=some (.slice e)) (hi:P.info? e=some i) (hz:i.zero=some z) (hsize:i.size=1) (hby:i.bytes=bytes) (hzs:z.cells.size=1)
 (v:Value) (n:Nat) (xs:List Value) (hs:a.eval s=v) (hown:w.ownsRow base e 1 v n xs) (B:Nat) (A:Option Addr) (m c:Nat) (news:List Value) (hx:a.eval x=.slice A m c) (hr:Sees w B A m news) (h1:∀u ∈ news,u.oneCell'=true)
 (hnm:n+m≤maxLen) (hbytes:(n+m)*bytes≤140737488355328) (hbase:base≤w.heap.size)
 (h:∀v' w',w'.ownsRow base e 1 v' (n+m) (xs++news)→w.grownBy w' v.ownBlock→(v'.ownBlock=v.ownBlock∨v'.ownBlock=some w.heap.size)→wpList P ops Q rest (a.put o.dst v') w'):wpList P ops Q (o::rest) a w:=
 wpList_plain hgd fun _ hK=>Xam s x ho ht hi hz hsize hby hzs hs hown hx hr h1 hnm hbytes hbase fun v' w' h2 h3 h4=>hK _ _ (h v' w' h2 h3 h4)
end
theorem Xcd{w:World}{base:Nat}{e:TypeId}{v:Value}{n:Nat}{xs:List Value}(h:w.ownsRow base e 1 v n xs):∃A c,v=.slice A n c:=by
 rcases h.2 with⟨rfl,rfl⟩ | ⟨g,cap,cur,rfl,_⟩
 ·exact⟨_,_,rfl⟩
 ·exact⟨_,_,rfl⟩
theorem Xbf{w:World}{base:Nat}{e t:TypeId}{v:Value}{n g:Nat}{xs ys:List Value}(h:w.ownsRow base e 1 v n xs)(hr:Row w g t ys)(hne:e≠t):some g≠v.ownBlock:=by
 rcases h.2 with⟨rfl,_⟩ | ⟨g',cap,cur,rfl,_,hh,_⟩
 ·simp[Value.ownBlock]
 ·intro he;have hg:g=g':=by simpa [Value.ownBlock]using he
  subst hg;have:=hr.is;rw[hh]at this;injection this with this
  injection this with _ ht
  exact hne ht
theorem Xdg(w:World)(p:Addr)(u:Value):w.grownBy (w.setCell p u) (some p.block):=
 ⟨rfl,rfl,rfl,by simp[World.setCell],fun k _ hne=>Below.heap_setCell w p u k (fun e=>hne (by rw[e]))⟩
theorem Xw0{w:World}{base:Nat}{e t:TypeId}{v:Value}{n g:Nat}{xs ys:List Value}(h:w.ownsRow base e 1 v n xs)(hr:Row w g t ys)(hne:e≠t)(i:Nat)(u:Value):(w.setCell ⟨g,i,none⟩ u).ownsRow base e 1 v n xs:=
 h.kept (Xdg w _ u) (.inr (fun e'=>Xbf h hr hne e'.symm))
theorem Xkn{B:Nat}{a w w':World}{base:Nat}{e:TypeId}{v:Value}{n:Nat}{xs:List Value}(h:Below B a w)(hown:w.ownsRow base e 1 v n xs)(hB:B≤base)(hs:B≤w.heap.size)(hg:w.grownBy w' v.ownBlock):Below B a w':=
 h.grown hg hs fun k hk=>by have:=(hown.lt k hk).1;omega
theorem Xpi(k y x:Nat)(hy:y<2 ^ k)(hx:x % 2 ^ k=0):y ||| x=y+x:=by
 obtain⟨q,rfl⟩:2 ^ k∣x:=Nat.dvd_of_mod_eq_zero hx;rw[Nat.or_comm,Nat.add_comm,Nat.two_pow_add_eq_or_of_lt hy]
theorem Xt9(a:Nat)(ha:a<18446744073709551616):(BitVec.ofInt 64 (a:Int)).toNat=a:=by
 rw[BitVec.ofInt_natCast,BitVec.toNat_ofNat];exact Nat.mod_eq_of_lt (by omega)
theorem Xj2(a b:Nat)(ha:a<9223372036854775808)(hb:b<9223372036854775808):bits .or .i64 (a:Int) (b:Int)=((a ||| b:Nat):Int):=by
 have hx:a ||| b<2 ^ 63:=Nat.or_lt_two_pow (by omega) (by omega)
 show IntKind.i64.wrap ((BitVec.ofInt 64 (a:Int) ||| BitVec.ofInt 64 (b:Int)).toNat:Int)=_
 rw[BitVec.toNat_or,Xt9 a (by omega),Xt9 b (by omega)];exact IntWalk.i64_in _ (by omega)
section
variable(k:Nat)(y x:Int)(h0:0≤y)(h1:y<2 ^ k)(h2:0≤x)(h3:x % 2 ^ k=0)
include h0 h1 h2 h3
theorem Xe4:∃a b:Nat,y=a∧x=b∧a ||| b=a+b:=by
 obtain⟨a,rfl⟩:=Int.eq_ofNat_of_zero_le h0;obtain⟨b,rfl⟩:=Int.eq_ofNat_of_zero_le h2;exact⟨a,b,rfl,rfl,Xpi k a b (by exact_mod_cast h1) (by exact_mod_cast h3)⟩
theorem Xs6(hy:y<9223372036854775808)(hx:x<9223372036854775808):bits .or .i64 y x=y+x:=by
 obtain⟨a,b,rfl,rfl,h⟩:=Xe4 k y x h0 h1 h2 h3;rw[Xj2 a b (by omega) (by omega),h];simp
theorem Xi0(hy:y<9223372036854775808)(hx:x<9223372036854775808):bits .or .i64 x y=x+y:=by
 obtain⟨a,b,rfl,rfl,h⟩:=Xe4 k y x h0 h1 h2 h3;rw[Xj2 b a (by omega) (by omega),Nat.or_comm,h];simp;omega
theorem Xpx(hy:y<18446744073709551616)(hx:x<18446744073709551616):bits .or .u64 y x=y+x:=by
 obtain⟨a,b,rfl,rfl,h⟩:=Xe4 k y x h0 h1 h2 h3;rw[u64_or_nat a b (by omega) (by omega),h];simp
theorem Xue(hy:y<256)(hx:x<256):bits .or .u8 y x=y+x:=by
 obtain⟨a,b,rfl,rfl,h⟩:=Xe4 k y x h0 h1 h2 h3;rw[u8_or_nat a b (by omega) (by omega),h];simp
theorem Xtj(hy:y<256)(hx:x<256):bits .or .u8 x y=x+y:=by
 obtain⟨a,b,rfl,rfl,h⟩:=Xe4 k y x h0 h1 h2 h3;rw[u8_or_nat b a (by omega) (by omega),Nat.or_comm,h];simp;omega
end
theorem Xfg(x:Int)(h0:0≤x)(h1:x<9223372036854775808):bits .or .i64 0 x=x:=by
 have:=Xs6 0 0 x (by omega) (by omega) h0 (by simp) (by omega) h1;simpa using this
theorem Xpm(x:Int)(h0:0≤x)(h1:x<256):bits .or .u8 0 x=x:=by
 have:=Xue 0 0 x (by omega) (by omega) h0 (by simp) (by omega) h1;simpa using this
theorem Xdl(x:Int)(h0:0≤x)(h1:x<256):bits .and .u8 x 127=x % 128:=by
 rw[u8_and x 127 h0 h1 (by omega) (by omega)];obtain⟨a,rfl⟩:=Int.eq_ofNat_of_zero_le h0;have:a &&& 127=a % 128:=Nat.and_two_pow_sub_one_eq_mod a 7;simp only[Int.toNat_natCast];show((a &&& 127:Nat):Int)=_
 rw[this];simp
theorem Xb3:(Tryz.prog.info? 5).map (fun i=>(i.zero,i.size,i.bytes))=some (some (.int .u8 0),1,1):=by kernel_rfl
theorem Xcp:(Tryz.prog.info? 5).map (·.size)=some 1:=by kernel_rfl
theorem Xjb(n:Nat):(madeCells (Value.int .u8 0).cells (n*1)).toList=bv (List.replicate n 0):=by
 apply List.ext_getElem?
 intro i;simp[madeCells,bv,cv,Value.cells];by_cases h:i<n <;> simp[h,Nat.mod_one]
theorem Xmk(A:Option Addr)(n c m:Nat)(zs:List Int)(w:World)(S:Nat)
 (hx:Sees w S A n (bv zs)) (hS:S≤w.heap.size) (hn:n≤1099511627776) (hm:m≤8) :
 Calls Tryz.prog 101 #[.slice A n c,.int .i64 m] w fun e w'=>∃g,e=.returned (.slice (some ⟨g,0,none⟩) (n+m) (n+m))∧w.heap.size≤g∧Row w' g 5 (bv (zs++List.replicate m 0))∧Below w.heap.size w w':=by
 obtain⟨i0,hi,hz0,hz1,hz2⟩:=info_parts Xb3;have lx:=Hd (show zs.length=n by have:=hx.len;rwa [bL]at this);go_enter Tryz.func101,Tryz.ntmps101
 go_wp2_with (first
  | (at_make;go_must(refine wpList_make_full _ rfl (.tmp 9) (.tmp 9) 22 rfl w.heap.size 5 i0 _ 1 Tryz.underlying22 hi hz0 hz1 .i64 .i64 _ _ (n+m) rfl rfl (by simp) (by simp) (by rw[hz2];omega) (by unfold maxLen;omega) (Lr _) ?_;intro w1 hown hgrow);rw[Xjb]at hown;have hrow:=Row.of_own hown;have hb1:=(Br w.heap.size w).grown hgrow (Lr _) (fun k hk=>by cases hk))
  | (with_reducible refine wpList_copy_splice rfl (.tmp 11) (.tmp 12) 22 22 rfl 5 Tryz.underlying22 Xcp (some ⟨w.heap.size,0,none⟩) A (n+m) (n+m) n c rfl rfl w.heap.size 0 (bv (List.replicate (n+m) 0)) 5 hrow.is (bv zs) ?_ ?_ ?_ (Xae zs) w.heap.size w hb1 (Lr _) ?_))
 case refine_1=>rw[bL,lx.out];simp
 case refine_2 =>
  intro hp;obtain⟨a,_,e,_⟩:=hx.at_ (k:=0) (by rw[bL,lx.out]at hp;exact hp);refine⟨a,e,fun j v hv=>?_⟩;obtain⟨_,e',_,hc⟩:=(hx.below (hb1.mono hS)).cell j v hv;rw[e]at e';cases e'
  exact hc
 case refine_3=>rw[bL,bL,lx.out];simp
 intro w2 hrow2 hb2;go_wp2;go_ret;refine⟨w.heap.size,rfl,Lr _,?_,hb2⟩;have h:=hrow2.out;refine⟨?_⟩;rw[h];have e:splice (bv (List.replicate (n+m) 0)) 0 (bv zs)=bv (zs++List.replicate m 0):=by
  simp[splice,bv,cv,lx.out]
 rw[e]
theorem Xga:(Tryz.prog.info? 115).map (fun i=>(i.zero,i.size,i.bytes))=some (some .nilIface,1,16):=by kernel_rfl
theorem Xk4(p:Nat)(A:Option Addr)(n c:Nat)(w:World)(hr:Row w p 60 [.slice A n c])(hn:n≤1000000) :
 Calls Tryz.prog 61 #[.pointer (some ⟨p,0,none⟩)] w fun e w'=>e=.returned (.int .i64 ((n:Int)+1))∧w=w':=by
 have c0:w.cell? ⟨p,0,none⟩=some (.slice A n c):=hr.cell 0;clear hr;go_enter Tryz.func61,Tryz.ntmps61
 go_wp2;go_ret;exact⟨rfl,rfl⟩
theorem Xax{a b c:World}{r:Option Nat}(h:a.grownBy b r)(k:b.grownBy c r):a.grownBy c r:=
 ⟨k.os.trans h.os,k.tape.trans h.tape,k.output.trans h.output,Lq h.size k.size,fun i hi hne=>(k.block i (Nat.lt_of_lt_of_le hi h.size) hne).trans (h.block i hi hne)⟩
theorem Xq1{k:Nat}{h:Value}{xs:List Value}(hk:k<xs.length):(List.replicate k h++xs.drop k).set k h=List.replicate (k+1) h++xs.drop (k+1):=by
 rw[List.set_append_right _ _ (by simp),List.length_replicate,Nat.sub_self,List.drop_eq_getElem_cons hk,List.set_cons_zero,List.replicate_succ',List.append_assoc];rfl
theorem Xuh{n k:Nat}{f:Value}{xs ys:List Value}(hn:xs.length=n)(hk:k<ys.length):(xs++(List.replicate k f++ys.drop k)).set (n+k) f=xs++(List.replicate (k+1) f++ys.drop (k+1)):=by
 rw[List.set_append_right _ _ (by omega),hn,Nat.add_sub_cancel_left,Xq1 hk]
theorem Xmh(g n c:Nat)(h f:Int)(xs:List Value)(w:World)(hr:Row w g 5 xs)(hl:c≤xs.length)(hnc:n≤c)(hc:c≤9223372036854775807) :
 Calls Tryz.prog 191 #[.agg #[.slice (some ⟨g,0,none⟩) n c,.int .u8 h,.int .u8 f],.bool false] w fun e w'=>e=.returned (.tuple #[])∧Row w' g 5 (List.replicate n (.int .u8 h)++xs.drop n)∧w.grownBy w' (some g):=by
 have hlt:=hr.lt;have HL:=Hd hl;have hB:=Row.new w 110 [.slice (some ⟨g,0,none⟩) n c,.int .u8 h,.int .u8 f];have R:=Hd (hr.alloc (.cells [Value.slice (some ⟨g,0,none⟩) n c,.int .u8 h,.int .u8 f].toArray 110));have HB:=Hd hB;have G0:=World.grownBy_alloc w (.cells [Value.slice (some ⟨g,0,none⟩) n c,.int .u8 h,.int .u8 f].toArray 110) (some g);clear hr hl hB;go_enter Tryz.func191,Tryz.ntmps191
 go_wp2_with fail;go_loopw [4] (fun i wr=>∃k:Nat,k≤n∧i=.int .i64 k∧Row wr g 5 (List.replicate k (.int .u8 h)++xs.drop k)∧Row wr w.heap.size 110 [.slice (some ⟨g,0,none⟩) n c,.int .u8 h,.int .u8 f]∧w.grownBy wr (some g)) (fun i _=>n - (intOf i).toNat)
 case atStart=>exact⟨0,Nat.zero_le _,rfl,by simpa using R.out,HB.out,G0⟩
 case round =>
  obtain⟨k,hk,rfl,hr,hb,hg⟩:=hrel;clear R HB G0;have RR:=Hd hr;have RB:=Hd hb;have b0:wr.cell? ⟨w.heap.size,0,none⟩=some (.slice (some ⟨g,0,none⟩) n c):=hb.cell 0;have b1:wr.cell? ⟨w.heap.size,1,none⟩=some (.int .u8 h):=hb.cell 1;have b2:wr.cell? ⟨w.heap.size,2,none⟩=some (.int .u8 f):=hb.cell 2;by_cases hlt2:k<n
  ·have f0:=hr.frozen k;have c0:=hr.cell k;rw[List.getElem?_append_right (by simp),List.getElem?_drop,List.getElem?_eq_getElem (by have:=HL.out;simp;omega)]at c0;clear hr hb;go_wp2;go_roundw
   case rel =>
    refine⟨k+1,by omega,by go_num,?_,RB.out.far (by simp;omega) _,Xax hg (Xdg _ _ _)⟩;have:=RR.out.set_ k (.int .u8 h);rwa [Xq1 (by have:=HL.out;omega)]at this
   case measure=>simp[intOf];omega
  ·have hk':k=n:=by omega
   have R2:Hid (Row wr g 5 (List.replicate n (.int .u8 h)++xs.drop n)):=by rw[←hk'];exact RR.out
   clear hr hk' RR hb;go_wp2;refine bodyPost_ret (results_none rfl _ _ _) rfl ?_;exact⟨rfl,R2.out,hg⟩
theorem Xpj(g n c:Nat)(h f:Int)(xs ys:List Value)(w:World)(hr:Row w g 5 (xs++ys))(hn:xs.length=n)(hl:c - n≤ys.length)(hnc:n≤c)(hc:c≤9223372036854775807) :
 Calls Tryz.prog 191 #[.agg #[.slice (some ⟨g,0,none⟩) n c,.int .u8 h,.int .u8 f],.bool true] w fun e w'=>e=.returned (.tuple #[])∧Row w' g 5 (xs++(List.replicate (c - n) (.int .u8 f)++ys.drop (c - n)))∧w.grownBy w' (some g):=by
 have hlt:=hr.lt;have HL:=Hd hl;have HN:=Hd hn;have hB:=Row.new w 110 [.slice (some ⟨g,0,none⟩) n c,.int .u8 h,.int .u8 f];have R:=Hd (hr.alloc (.cells [Value.slice (some ⟨g,0,none⟩) n c,.int .u8 h,.int .u8 f].toArray 110));have HB:=Hd hB;have G0:=World.grownBy_alloc w (.cells [Value.slice (some ⟨g,0,none⟩) n c,.int .u8 h,.int .u8 f].toArray 110) (some g);clear hr hl hn hB;go_enter Tryz.func191,Tryz.ntmps191
 go_wp2_with fail;go_loopw [6] (fun i wr=>∃k:Nat,n+k≤c∧i=.int .i64 ((n+k:Nat):Int)∧Row wr g 5 (xs++(List.replicate k (.int .u8 f)++ys.drop k))∧Row wr w.heap.size 110 [.slice (some ⟨g,0,none⟩) n c,.int .u8 h,.int .u8 f]∧w.grownBy wr (some g)) (fun i _=>c - (intOf i).toNat)
 case atStart=>exact⟨0,by omega,rfl,by simpa using R.out,HB.out,G0⟩
 case round =>
  obtain⟨k,hk,rfl,hr,hb,hg⟩:=hrel;clear R HB G0;have RR:=Hd hr;have RB:=Hd hb;have b0:wr.cell? ⟨w.heap.size,0,none⟩=some (.slice (some ⟨g,0,none⟩) n c):=hb.cell 0;have b1:wr.cell? ⟨w.heap.size,1,none⟩=some (.int .u8 h):=hb.cell 1;have b2:wr.cell? ⟨w.heap.size,2,none⟩=some (.int .u8 f):=hb.cell 2;by_cases hlt2:n+k<c
  ·have f0:=hr.frozen (n+k);have c0:=hr.cell (n+k);rw[List.getElem?_append_right (by have:=HN.out;omega),List.getElem?_append_right (by have:=HN.out;simp;omega),List.getElem?_drop,List.getElem?_eq_getElem (by have:=HL.out;have:=HN.out;simp;omega)]at c0;obtain⟨u,cu⟩:∃u,wr.cell? ⟨g,n+k,none⟩=some u:=⟨_,c0⟩;clear c0;clear hr hb;generalize hj:n+k=j at *;have HJ:=Hd hj;clear hj;go_wp2;go_roundw
   case rel =>
    refine⟨k+1,by have:=HJ.out;omega,by rw[←HJ.out];go_num,?_,RB.out.far (by simp;omega) _,Xax hg (Xdg _ _ _)⟩;have:=RR.out.set_ (n+k) (.int .u8 f);rw[Xuh HN.out (by have:=HL.out;have:=HJ.out;omega),HJ.out]at this;exact this
   case measure=>simp[intOf];omega
  ·have hk':k=c - n:=by omega
   have R2:Hid (Row wr g 5 (xs++(List.replicate (c - n) (.int .u8 f)++ys.drop (c - n)))):=by
    have:=RR.out;rw[hk']at this;exact this
   have hj2:¬(((n+k:Nat):Int)<(c:Int)):=by omega
   clear hr hk' RR hb;generalize n+k=j at *;go_wp2;go_end0
   exact⟨rfl,R2.out,hg⟩
theorem Xsq(g n c:Nat)(h f:Int)(zs:List Value)(w:World)(hr:Row w g 5 (List.replicate n (.int .u8 h)++(List.replicate (c - n) (.int .u8 f)++zs)))(hnc:n≤c)(hc:c≤9223372036854775807) :
 Calls Tryz.prog 190 #[.agg #[.slice (some ⟨g,0,none⟩) n c,.int .u8 h,.int .u8 f]] w fun e w'=>e=.returned (.bool true)∧w.grownBy w' none:=by
 have hlt:=hr.lt;have hB:=Row.new w 110 [.slice (some ⟨g,0,none⟩) n c,.int .u8 h,.int .u8 f];let W:=w.alloc (.cells [Value.slice (some ⟨g,0,none⟩) n c,.int .u8 h,.int .u8 f].toArray 110)
 have R:Hid (Row W g 5 _):=Hd (hr.alloc _);have HB:Hid (Row W w.heap.size 110 _):=Hd hB;have G0:w.grownBy W none:=World.grownBy_alloc w _ none;have b0:W.cell? ⟨w.heap.size,0,none⟩=some (.slice (some ⟨g,0,none⟩) n c):=hB.cell 0;have b1:W.cell? ⟨w.heap.size,1,none⟩=some (.int .u8 h):=hB.cell 1;have b2:W.cell? ⟨w.heap.size,2,none⟩=some (.int .u8 f):=hB.cell 2;have hh:(h != h)=false:=by simp
 have hf:(f != f)=false:=by simp
 clear hr hB;go_enter Tryz.func190,Tryz.ntmps190
 go_wp2_with fail;change Code.wp _ _ _ _ W
 clear_value W
 go_loopw [3] (fun i wr=>∃k j:Nat,k≤n∧i=.int .i64 k∧wr=W.drewN j) (fun i _=>n - (intOf i).toNat)
 case atStart=>exact⟨0,0,Nat.zero_le _,rfl,rfl⟩
 case round =>
  obtain⟨k,j,hk,rfl,rfl⟩:=hrel;by_cases hlt2:k<n
  ·have c0:=R.out.cell k;rw[List.getElem?_append_left (by simp;omega),List.getElem?_replicate_of_lt hlt2]at c0;go_wp2;go_quiet (fail)
   go_wp2;go_roundw
   case rel=>exact⟨k+1,j+nq,by omega,by go_num,by simp⟩
   case measure=>simp[intOf];omega
  ·go_wp2;go_loopw [5] (fun i wr=>∃k j:Nat,n+k≤c∧i=.int .i64 ((n+k:Nat):Int)∧wr=W.drewN j) (fun i _=>c - (intOf i).toNat)
   case atStart=>exact⟨0,j,by omega,rfl,rfl⟩
   case round =>
    obtain⟨k,j,hk,rfl,rfl⟩:=hrel;by_cases hlt2:n+k<c
    ·have c0:=R.out.cell (n+k);rw[List.getElem?_append_right (by simp),List.getElem?_append_left (by simp;omega),List.getElem?_replicate_of_lt (by simp;omega)]at c0;generalize hjj:n+k=t at *;have HJ:=Hd hjj;clear hjj;go_wp2;go_quiet (fail)
     go_wp2;go_roundw
     case rel=>exact⟨k+1,j+nq,by have:=HJ.out;omega,by rw[←HJ.out];go_num,by simp⟩
     case measure=>simp[intOf];omega
    ·have hj2:¬(((n+k:Nat):Int)<(c:Int)):=by omega
     generalize n+k=t at *;go_wp2;go_ret;exact⟨rfl,Xax G0 ⟨rfl,rfl,rfl,Lr _,fun _ _ _=>rfl⟩⟩
def short(n:Int):List Int:=
 if n<128 then[n]else if n<16384 then[n % 128+128,n / 128]else[n % 128+128,n / 128 % 128+128,n / 16384]
theorem Xqo(x:Int):(short x).length=if x<128 then 1 else if x<16384 then 2 else 3:=by
 unfold short;split <;> (try split) <;> simp
theorem width1(n:Int)(w:World)(h:n<128):Calls Tryz.prog 100 #[.int .i64 n] w fun e w'=>e=.returned (.int .i64 1)∧w=w':=by
 go_enter Tryz.func100,Tryz.ntmps100
 go_wp2;go_ret;exact⟨rfl,rfl⟩
theorem width2(n:Int)(w:World)(h:128≤n)(h':n<16384):Calls Tryz.prog 100 #[.int .i64 n] w fun e w'=>e=.returned (.int .i64 2)∧w=w':=by
 go_enter Tryz.func100,Tryz.ntmps100
 go_wp2;go_ret;exact⟨rfl,rfl⟩
theorem width3(n:Int)(w:World)(h:16384≤n):Calls Tryz.prog 100 #[.int .i64 n] w fun e w'=>e=.returned (.int .i64 3)∧w=w':=by
 have h2:¬n<128:=by omega
 go_enter Tryz.func100,Tryz.ntmps100
 go_wp2;go_ret;exact⟨rfl,rfl⟩
def PutDone(w:World)(n:Nat)(ys:List Int)(e:Ending)(w':World):Prop:=
 ∃g,e=.returned (.tuple #[.slice (some ⟨g,0,none⟩) n n,.int .i64 0])∧w.heap.size≤g∧Row w' g 5 (bv ys)∧Below w.heap.size w w'
theorem or128(y:Int)(h0:0≤y)(h1:y<256):bits .or .u8 128 (bits .and .u8 y 127)=y % 128+128:=by
 rw[Xdl y h0 h1,Xtj 7 (y % 128) 128 (by omega) (by omega) (by omega) (by omega) (by omega) (by omega)];omega
theorem or0(y:Int)(h0:0≤y)(h1:y<256):bits .or .u8 0 (bits .and .u8 y 127)=y % 128:=by
 rw[Xdl y h0 h1,Xpm _ (by omega) (by omega)]
theorem row3{w1:World}{g t:Nat}{zs:List Int}{a b b' c c':Int}(R:Row w1 g t (bv (zs++List.replicate 3 0))) :
 Row (((((w1.setCell ⟨g,zs.length+2,none⟩ (.int .u8 a)).setCell ⟨g,zs.length+1,none⟩ (.int .u8 b')).setCell ⟨g,zs.length+1,none⟩ (.int .u8 b)).setCell ⟨g,zs.length,none⟩ (.int .u8 c')).setCell ⟨g,zs.length,none⟩ (.int .u8 c)) g t (bv (zs++[c,b,a])):=by
 have h:=((((R.set_ (zs.length+2) (.int .u8 a)).set_ (zs.length+1) (.int .u8 b')).set_ (zs.length+1) (.int .u8 b)).set_ zs.length (.int .u8 c')).set_ zs.length (.int .u8 c);simpa [bv,cv,List.set_append,List.replicate]using h
theorem row2{w1:World}{g t:Nat}{zs:List Int}{b c c':Int}(R:Row w1 g t (bv (zs++List.replicate 2 0))) :
 Row (((w1.setCell ⟨g,zs.length+1,none⟩ (.int .u8 b)).setCell ⟨g,zs.length,none⟩ (.int .u8 c')).setCell ⟨g,zs.length,none⟩ (.int .u8 c)) g t (bv (zs++[c,b])):=by
 have h:=((R.set_ (zs.length+1) (.int .u8 b)).set_ zs.length (.int .u8 c')).set_ zs.length (.int .u8 c);simpa [bv,cv,List.set_append,List.replicate]using h
theorem row1{w1:World}{g t:Nat}{zs:List Int}{c:Int}(R:Row w1 g t (bv (zs++List.replicate 1 0))) :
 Row (w1.setCell ⟨g,zs.length,none⟩ (.int .u8 c)) g t (bv (zs++[c])):=by
 have h:=R.set_ zs.length (.int .u8 c);simpa [bv,cv,List.set_append,List.replicate]using h
section
variable(A:Option Addr)(n c:Nat)(zs:List Int)(w:World)(S:Nat)(x:Int)
 (hx:Sees w S A n (bv zs)) (hS:S≤w.heap.size) (hn:n≤1099511627776)
include hx hS hn
theorem Xpu(h0:16384≤x)(h1:x≤65535) :
 Calls Tryz.prog 65 #[.slice A n c,.int .i64 x] w (PutDone w (n+3) (zs++[x % 128+128,x / 128 % 128+128,x / 16384])):=by
 have HW:=Hd (width3 x w h0);have HL:=Hd (Xmk A n c 3 zs w S hx hS hn (by omega));have lx:=Hd (show zs.length=n by have:=hx.len;rwa [bL]at this);go_enter Tryz.func65,Tryz.ntmps65
 go_wp2_with fail;refine HW.out.mono ?_;rintro e w1 ⟨rfl,rfl⟩;go_wp2_with fail;refine HL.out.mono ?_;rintro e w1 ⟨g,rfl,hg,hrow,hb⟩;have c0:=hrow.cell n;have c1:=hrow.cell (n+1);have c2:=hrow.cell (n+2);have f0:=hrow.frozen n;have f1:=hrow.frozen (n+1);have f2:=hrow.frozen (n+2);have R:=Hd hrow;rw[bv_getElem?]at c0 c1 c2;have l0:zs.length=n:=lx.out;subst l0;simp at c0 c1 c2;clear hrow;go_wp2_with fail;go_ret2
 refine⟨g,rfl,hg,?_,?_⟩
 ·rw[or128 _ (by omega) (by omega),or128 _ (by omega) (by omega),show x / 128 % 256 % 128=x / 128 % 128 by omega,show x % 256 % 128=x % 128 by omega];exact row3 R.out
 ·exact((((hb.setCell hg _).setCell hg _).setCell hg _).setCell hg _).setCell hg _
theorem Xph(h0:128≤x)(h1:x<16384) :
 Calls Tryz.prog 65 #[.slice A n c,.int .i64 x] w (PutDone w (n+2) (zs++[x % 128+128,x / 128])):=by
 have HW:=Hd (width2 x w h0 h1);have HL:=Hd (Xmk A n c 2 zs w S hx hS hn (by omega));have lx:=Hd (show zs.length=n by have:=hx.len;rwa [bL]at this);go_enter Tryz.func65,Tryz.ntmps65
 go_wp2_with fail;refine HW.out.mono ?_;rintro e w1 ⟨rfl,rfl⟩;go_wp2_with fail;refine HL.out.mono ?_;rintro e w1 ⟨g,rfl,hg,hrow,hb⟩;have c0:=hrow.cell n;have c1:=hrow.cell (n+1);have f0:=hrow.frozen n;have f1:=hrow.frozen (n+1);have R:=Hd hrow;rw[bv_getElem?]at c0 c1;have l0:zs.length=n:=lx.out;subst l0;simp at c0 c1;clear hrow;go_wp2_with fail;go_ret2
 refine⟨g,rfl,hg,?_,?_⟩
 ·rw[or0 _ (by omega) (by omega),or128 _ (by omega) (by omega),show x / 128 % 128=x / 128 by omega,show x % 256 % 128=x % 128 by omega];exact row2 R.out
 ·exact((hb.setCell hg _).setCell hg _).setCell hg _
theorem Xp0(h0:0≤x)(h1:x<128) :
 Calls Tryz.prog 65 #[.slice A n c,.int .i64 x] w (PutDone w (n+1) (zs++[x])):=by
 have HW:=Hd (width1 x w h1);have HL:=Hd (Xmk A n c 1 zs w S hx hS hn (by omega));have lx:=Hd (show zs.length=n by have:=hx.len;rwa [bL]at this);go_enter Tryz.func65,Tryz.ntmps65
 go_wp2_with fail;refine HW.out.mono ?_;rintro e w1 ⟨rfl,rfl⟩;go_wp2_with fail;refine HL.out.mono ?_;rintro e w1 ⟨g,rfl,hg,hrow,hb⟩;have c0:=hrow.cell n;have f0:=hrow.frozen n;have R:=Hd hrow;rw[bv_getElem?]at c0;have l0:zs.length=n:=lx.out;subst l0;simp at c0;clear hrow;go_wp2_with fail;go_ret2
 refine⟨g,rfl,hg,?_,?_⟩
 ·have e:bits .or .u8 0 (bits .and .u8 x 127)=x:=by rw[or0 x (by omega) (by omega)];omega
  have h:=row1 (c:=x) R.out;first | (rw[e];exact h) | (rw[show x % 256=x by omega,e];exact h)
 ·exact hb.setCell hg _
theorem Xnf(h0:0≤x)(h1:x≤65535) :
 Calls Tryz.prog 65 #[.slice A n c,.int .i64 x] w (PutDone w (n+(short x).length) (zs++short x)):=by
 by_cases h:x<128
 ·have e:short x=[x]:=by simp[short,h]
  rw[e];exact Xp0 A n c zs w S x hx hS hn h0 h
 ·by_cases h':x<16384
  ·have e:short x=[x % 128+128,x / 128]:=by simp[short,h,h']
   rw[e];exact Xph A n c zs w S x hx hS hn (by omega) h'
  ·have e:short x=[x % 128+128,x / 128 % 128+128,x / 16384]:=by simp[short,h,h']
   rw[e];exact Xpu A n c zs w S x hx hS hn (by omega) h1
end
structure LIn where
 p:Int
 acc:List Int
 dat:List Int
structure LLook where
 tab:List Int
 wr:List Int
 rd:List Int
structure LMsg where
 v0:Bool
 s:Int
 r:Int
 o:Int
 keys:List (List Int)
 recent:List Int
 ins:List LIn
 looks:List LLook
def encL(l:List Int):List Int:=short l.length++l
def encIn(i:LIn):List Int:=i.p::(encL i.acc++encL i.dat)
def encLook(l:LLook):List Int:=l.tab++(encL l.wr++encL l.rd)
def encHead(m:LMsg):List Int:=(if m.v0 then[128]else[])++[m.s,m.r,m.o]
def encTail(m:LMsg):List Int:=if m.v0 then short m.looks.length++m.looks.flatMap encLook else[]
def enc(m:LMsg):List Int:=encHead m++(short m.keys.length++(m.keys.flatten++(m.recent++(short m.ins.length++(m.ins.flatMap encIn++encTail m)))))
def Fits(m:LMsg):Prop:=
 (m.v0=true∨(m.looks=[]∧m.s<128))∧m.keys.length≤65535∧m.ins.length≤65535∧m.looks.length≤65535 ∧
 (∀i ∈ m.ins,i.acc.length≤65535∧i.dat.length≤65535)∧(∀l ∈ m.looks,l.wr.length≤65535∧l.rd.length≤65535)
def IsByte(z:Int):Prop:=0≤z∧z<256
def AllBytes(l:List Int):Prop:=∀z ∈ l,IsByte z
structure LMsg.Wf(m:LMsg):Prop where
 s:IsByte m.s
 r:IsByte m.r
 o:IsByte m.o
 keys:∀k ∈ m.keys,k.length=32∧AllBytes k
 recent:m.recent.length=32∧AllBytes m.recent
 ins:∀i ∈ m.ins,IsByte i.p∧AllBytes i.acc∧AllBytes i.dat
 looks:∀l ∈ m.looks,(l.tab.length=32∧AllBytes l.tab)∧AllBytes l.wr∧AllBytes l.rd
structure BytesIn(w:World)(B:Nat)(v:Value)(l:List Int):Prop where
 is:∃A c,v=.slice A l.length c∧Sees w B A l.length (bv l)∧l.length≤c∧c≤maxLen
structure InsIn(w:World)(B:Nat)(A:Option Addr)(n:Nat)(l:List LIn):Prop where
 len:l.length=n
 at_:∀i x,l[i]?=some x→∃a va vd,A=some a∧a.block<B∧w.cell? (a.add (i*3))=some (.int .u8 x.p)∧w.cell? (a.add (i*3+1))=some va∧w.cell? (a.add (i*3+2))=some vd∧BytesIn w B va x.acc∧BytesIn w B vd x.dat
structure LooksIn(w:World)(B:Nat)(A:Option Addr)(n:Nat)(l:List LLook):Prop where
 len:l.length=n
 at_:∀i x,l[i]?=some x→∃a va vd,A=some a∧a.block<B∧(∀j u,(bv x.tab++[va,vd])[j]?=some u→w.cell? (a.add (i*34+j))=some u)∧x.tab.length=32∧BytesIn w B va x.wr∧BytesIn w B vd x.rd
structure KeysIn(w:World)(B:Nat)(A:Option Addr)(n:Nat)(l:List (List Int)):Prop where
 len:l.length=n
 each:∀k ∈ l,k.length=32
 sees:Sees w B A (n*32) (bv l.flatten)
structure Raw where
 KA:Option Addr
 kn:Nat
 kc:Nat
 IA:Option Addr
 n:Nat
 ic:Nat
 LA:Option Addr
 ln:Nat
 lc:Nat
def Raw.cells(q:Raw)(m:LMsg):List Value:=
 [.bool m.v0,.int .u8 m.s,.int .u8 m.r,.int .u8 m.o,.slice q.KA q.kn q.kc]++(bv m.recent++[.slice q.IA q.n q.ic,.slice q.LA q.ln q.lc])
structure MsgIn(w:World)(B:Nat)(q:Raw)(m:LMsg):Prop where
 recent:m.recent.length=32
 keys:KeysIn w B q.KA q.kn m.keys
 ins:InsIn w B q.IA q.n m.ins
 looks:LooksIn w B q.LA q.ln m.looks
 kn:q.kn≤q.kc∧q.kc≤maxLen
 n:q.n≤q.ic∧q.ic≤maxLen
 ln:q.ln≤q.lc∧q.lc≤maxLen
section
variable{w w':World}{B B':Nat}
theorem BytesIn.keep{v:Value}{l:List Int}(h:BytesIn w B v l)(hk:∀p:Addr,p.block<B→w'.cell? p=w.cell? p):BytesIn w' B v l:=by
 obtain⟨A,c,e,hs,h1,h2⟩:=h.is;exact⟨A,c,e,hs.keep hk,h1,h2⟩
theorem BytesIn.more{v:Value}{l:List Int}(h:BytesIn w B v l)(hB:B≤B'):BytesIn w B' v l:=by
 obtain⟨A,c,e,hs,h1,h2⟩:=h.is;exact⟨A,c,e,hs.more hB,h1,h2⟩
theorem InsIn.keep{A:Option Addr}{n:Nat}{l:List LIn}(h:InsIn w B A n l)(hk:∀p:Addr,p.block<B→w'.cell? p=w.cell? p):InsIn w' B A n l:=
 ⟨h.len,fun i x hx=>by
  obtain⟨a,va,vd,e,hb,h1,h2,h3,h4,h5⟩:=h.at_ i x hx;exact⟨a,va,vd,e,hb,(hk _ (by rw[Xa7];exact hb)).trans h1,(hk _ (by rw[Xa7];exact hb)).trans h2,(hk _ (by rw[Xa7];exact hb)).trans h3,h4.keep hk,h5.keep hk⟩⟩
theorem InsIn.more{A:Option Addr}{n:Nat}{l:List LIn}(h:InsIn w B A n l)(hB:B≤B'):InsIn w B' A n l:=
 ⟨h.len,fun i x hx=>by
  obtain⟨a,va,vd,e,hb,h1,h2,h3,h4,h5⟩:=h.at_ i x hx;exact⟨a,va,vd,e,by omega,h1,h2,h3,h4.more hB,h5.more hB⟩⟩
theorem LooksIn.keep{A:Option Addr}{n:Nat}{l:List LLook}(h:LooksIn w B A n l)(hk:∀p:Addr,p.block<B→w'.cell? p=w.cell? p):LooksIn w' B A n l:=
 ⟨h.len,fun i x hx=>by
  obtain⟨a,va,vd,e,hb,h1,h2,h4,h5⟩:=h.at_ i x hx;exact⟨a,va,vd,e,hb,fun j u hu=>(hk _ (by rw[Xa7];exact hb)).trans (h1 j u hu),h2,h4.keep hk,h5.keep hk⟩⟩
theorem LooksIn.more{A:Option Addr}{n:Nat}{l:List LLook}(h:LooksIn w B A n l)(hB:B≤B'):LooksIn w B' A n l:=
 ⟨h.len,fun i x hx=>by
  obtain⟨a,va,vd,e,hb,h1,h2,h4,h5⟩:=h.at_ i x hx;exact⟨a,va,vd,e,by omega,h1,h2,h4.more hB,h5.more hB⟩⟩
theorem KeysIn.keep{A:Option Addr}{n:Nat}{l:List (List Int)}(h:KeysIn w B A n l)(hk:∀p:Addr,p.block<B→w'.cell? p=w.cell? p):KeysIn w' B A n l:=⟨h.len,h.each,h.sees.keep hk⟩
theorem KeysIn.more{A:Option Addr}{n:Nat}{l:List (List Int)}(h:KeysIn w B A n l)(hB:B≤B'):KeysIn w B' A n l:=⟨h.len,h.each,h.sees.more hB⟩
variable{q:Raw}{m:LMsg}
theorem MsgIn.keep(h:MsgIn w B q m)(hk:∀p:Addr,p.block<B→w'.cell? p=w.cell? p):MsgIn w' B q m:=⟨h.recent,h.keys.keep hk,h.ins.keep hk,h.looks.keep hk,h.kn,h.n,h.ln⟩
theorem MsgIn.more(h:MsgIn w B q m)(hB:B≤B'):MsgIn w B' q m:=⟨h.recent,h.keys.more hB,h.ins.more hB,h.looks.more hB,h.kn,h.n,h.ln⟩
theorem MsgIn.below(h:MsgIn w B q m)(hb:Below B w w'):MsgIn w' B q m:=h.keep fun _ hp=>hb.cell hp
theorem MsgIn.alloc(h:MsgIn w B q m)(hB:B≤w.heap.size)(o:Obj):MsgIn (w.alloc o) B q m:=h.keep fun p hp=>World.cell?_alloc_lt w o p (by omega)
theorem MsgIn.drewN(h:MsgIn w B q m)(n:Nat):MsgIn (w.drewN n) B q m:=h.keep fun p hp=>rfl
theorem InsIn.below{A:Option Addr}{n:Nat}{l:List LIn}(h:InsIn w B A n l)(hb:Below B w w'):InsIn w' B A n l:=h.keep fun _ hp=>hb.cell hp
theorem LooksIn.below{A:Option Addr}{n:Nat}{l:List LLook}(h:LooksIn w B A n l)(hb:Below B w w'):LooksIn w' B A n l:=h.keep fun _ hp=>hb.cell hp
theorem KeysIn.below{A:Option Addr}{n:Nat}{l:List (List Int)}(h:KeysIn w B A n l)(hb:Below B w w'):KeysIn w' B A n l:=h.keep fun _ hp=>hb.cell hp
theorem BytesIn.below{v:Value}{l:List Int}(h:BytesIn w B v l)(hb:Below B w w'):BytesIn w' B v l:=h.keep fun _ hp=>hb.cell hp
end
section
variable{q:Raw}{m:LMsg}
theorem Xaq(h:m.recent.length=32):(q.cells m).length=39:=by simp[Raw.cells,bL,h]
theorem Xx1:(q.cells m)[0]?=some (.bool m.v0):=rfl
theorem Xjr:(q.cells m)[1]?=some (.int .u8 m.s):=rfl
theorem Xjm:(q.cells m)[2]?=some (.int .u8 m.r):=rfl
theorem Xka:(q.cells m)[3]?=some (.int .u8 m.o):=rfl
theorem Xjx:(q.cells m)[4]?=some (.slice q.KA q.kn q.kc):=rfl
theorem Xds(h:m.recent.length=32):(q.cells m)[37]?=some (.slice q.IA q.n q.ic):=by
 simp[Raw.cells,bL,h]
theorem Xdo(h:m.recent.length=32):(q.cells m)[38]?=some (.slice q.LA q.ln q.lc):=by
 simp[Raw.cells,bL,h]
theorem Xes{j:Nat}{u:Value}(h:(bv m.recent)[j]?=some u):(q.cells m)[5+j]?=some u:=by
 have hj:=(List.getElem?_eq_some_iff.1 h).1;simp only[Raw.cells];rw[List.getElem?_append_right (by simp),List.getElem?_append_left (by simpa using hj)];simpa using h
theorem Xcz:∀u ∈ q.cells m,u.oneCell'=true:=by
 intro u hu;simp only[Raw.cells,List.mem_append,List.mem_cons,List.not_mem_nil,or_false]at hu;rcases hu with(rfl | rfl | rfl | rfl | rfl) | hu | rfl | rfl
 all_goals first | rfl | exact Xae _ _ hu
end
theorem Xbg{α:Type}(f:α→List Int):∀(l:List α) (k:Nat),((l.take k).flatMap f).length≤(l.flatMap f).length
 | [],k=>by simp
 | x::r,0=>by simp
 | x::r,k+1=>by
  have:=Xbg f r k;simp only[List.take_succ_cons,List.flatMap_cons,List.length_append];omega
theorem Xb7{α:Type}(f:α→List Int){l:List α}{k:Nat}{x:α}(h:l[k]?=some x):(l.take (k+1)).flatMap f=(l.take k).flatMap f++f x:=by
 rw[List.take_add_one,List.flatMap_append,h];simp
def mea(zs:List Int):Int × Int:=
 if zs.length=0 then(0,5)
 else if zs.getD 0 0<128 then(1,0)
 else if zs.length=1 then(0,5)
 else if zs.getD 1 0=0 then(0,4)
 else if zs.getD 1 0<128 then(2,0)
 else if zs.length=2 then(0,5)
 else if zs.getD 2 0=0∨3<zs.getD 2 0 then(0,4)else(3,0)
def Bytes(zs:List Int):Prop:=∀i,0≤zs.getD i 0∧zs.getD i 0<256
theorem tup3{k l m:IntKind}{a b c d e f:Int}(h:a=c)(h':b=d)(h'':e=f):Ending.returned (.tuple #[.int k a,.int l b,.int m e])=.returned (.tuple #[.int k c,.int l d,.int m f]):=by rw[h,h',h'']
theorem Xcu{k l:IntKind}{a b:Int}{p:Int × Int}(h:p=(a,b)):Ending.returned (.tuple #[.int k a,.int l b])=.returned (.tuple #[.int k p.1,.int l p.2]):=by rw[h]
section
variable{zs:List Int}{n k:Nat}(lx:zs.length=n)(h0:0<k→128≤zs.getD 0 0)(h1:1<k→128≤zs.getD 1 0)(h2:k≤2){z:Int}(hz:zs.getD k 0=z)
include lx h0 h1 h2
theorem Xrs(hk:k=n):mea zs=(0,5):=by
 subst hk;obtain rfl | rfl | rfl:k=0∨k=1∨k=2:=by omega
 ·simp[mea,lx]
 ·have:=h0 (by omega);simp only[mea,lx];rw[if_neg (by omega),if_neg (by omega),if_pos trivial]
 ·have:=h0 (by omega);have:=h1 (by omega);simp only[mea,lx];rw[if_neg (by omega),if_neg (by omega),if_neg (by omega),if_neg (by omega),if_neg (by omega),if_pos trivial]
include hz
theorem Xif(hk:k<n)(h:(0<k∧z=0)∨(k=2∧3<z)):mea zs=(0,4):=by
 obtain rfl | rfl | rfl:k=0∨k=1∨k=2:=by omega
 ·omega
 ·have:=h0 (by omega);simp only[mea,lx];rw[if_neg (by omega),if_neg (by omega),if_neg (by omega),if_pos (by omega)]
 ·have:=h0 (by omega);have:=h1 (by omega);simp only[mea,lx];rw[if_neg (by omega),if_neg (by omega),if_neg (by omega),if_neg (by omega),if_neg (by omega),if_neg (by omega),if_pos (by omega)]
theorem Xiy(hk:k<n)(h:¬((0<k∧z=0)∨(k=2∧3<z)))(hs:z<128):mea zs=((k:Int)+1,0):=by
 obtain rfl | rfl | rfl:k=0∨k=1∨k=2:=by omega
 ·simp only[mea,lx];rw[if_neg (by omega),if_pos (by omega)];rfl
 ·have:=h0 (by omega);simp only[mea,lx];rw[if_neg (by omega),if_neg (by omega),if_neg (by omega),if_neg (by omega),if_pos (by omega)];rfl
 ·have:=h0 (by omega);have:=h1 (by omega);simp only[mea,lx];rw[if_neg (by omega),if_neg (by omega),if_neg (by omega),if_neg (by omega),if_neg (by omega),if_neg (by omega),if_neg (by omega)];rfl
omit lx in
theorem Xl2(hs:128≤z):(0<k+1→128≤zs.getD 0 0)∧(1<k+1→128≤zs.getD 1 0):=by
 refine⟨fun _=>?_,fun _=>?_⟩
 ·by_cases h:k=0
  ·subst h;omega
  ·exact h0 (by omega)
 ·by_cases h:k=1
  ·subst h;omega
  ·exact h1 (by omega)
end
theorem Xur(A:Option Addr)(n c:Nat)(zs:List Int)(w:World)(S:Nat)
 (hx:Sees w S A n (bv zs)) (hn:n≤maxLen) (hb:Bytes zs) :
 Calls Tryz.prog 161 #[.slice A n c] w fun e w'=>e=.returned (.tuple #[.int .i64 (mea zs).1,.int .i64 (mea zs).2])∧w=w':=by
 unfold maxLen at hn;have lx:=Hd (show zs.length=n by have:=hx.len;rwa [bL]at this);go_enter Tryz.func161,Tryz.ntmps161
 go_wp2;go_loop [4,5,8,13] (fun _ _ i _=>∃k:Nat,k≤n∧k≤2∧i=.int .i64 k∧(0<k→128≤zs.getD 0 0)∧(1<k→128≤zs.getD 1 0)) (fun _ _ i _=>n - (intOf i).toNat)
 case atStart=>exact⟨0,Nat.zero_le _,Nat.zero_le _,rfl,by omega,by omega⟩
 case round =>
  obtain⟨k,hk,hk2,rfl,h0,h1⟩:=hrel;have H0:=Hd h0;have H1:=Hd h1;clear h0 h1;by_cases hlt:k<n
  ·obtain⟨a,rfl,ha,hca⟩:=hx.byte hlt;have hbk:=hb k;generalize hz:zs.getD k 0=z at hca hbk;have HZ:=Hd hz;clear hz;go_wp2;all_goals first
    | (go_ret2
       first
        | exact⟨Xcu (Xif lx.out H0.out H1.out hk2 HZ.out hlt (.inl ⟨by assumption,beq_iff_eq.1 (by assumption)⟩)),rfl⟩
        | exact⟨Xcu (Xif lx.out H0.out H1.out hk2 HZ.out hlt (.inr ⟨by omega,by assumption⟩)),rfl⟩
        | exact⟨Xcu (Xiy lx.out H0.out H1.out hk2 HZ.out hlt (by omega) (by assumption)),rfl⟩
        | (have hz0:=beq_eq_false_iff_ne.1 (show(z==0)=false by assumption)
           first
            | exact⟨Xcu (Xiy lx.out H0.out H1.out hk2 HZ.out hlt (by omega) (by assumption)),rfl⟩
            | (obtain rfl:k=2:=by omega
               exact⟨Xcu (Xiy lx.out H0.out H1.out hk2 HZ.out hlt (by omega) (by assumption)),rfl⟩)))
    | (go_round
       case rel=>exact⟨k+1,by omega,by omega,by go_num,Xl2 H0.out H1.out hk2 HZ.out (by assumption)⟩
       case measure=>simp[intOf];omega)
  ·have HK:=Hd (show k=n by omega);go_wp2;go_ret2
   exact⟨Xcu (Xrs lx.out H0.out H1.out hk2 HK.out),rfl⟩
theorem Xhj(zs:List Int)(hb:Bytes zs) :
 (mea zs=(0,4)∨mea zs=(0,5))∨(mea zs=(1,0)∧1≤zs.length∧zs.getD 0 0<128) ∨
 (mea zs=(2,0)∧2≤zs.length∧128≤zs.getD 0 0∧zs.getD 1 0<128∧0<zs.getD 1 0) ∨
 (mea zs=(3,0)∧3≤zs.length∧128≤zs.getD 0 0∧128≤zs.getD 1 0∧zs.getD 2 0≤3∧0<zs.getD 2 0):=by
 have h0:=hb 0;have h1:=hb 1;have h2:=hb 2;unfold mea;repeat' split
 all_goals first
  | (left;simp;done)
  | (right;left;refine⟨rfl,by omega,by omega⟩)
  | (right;right;left;refine⟨rfl,by omega,by omega,by omega,by omega⟩)
  | (right;right;right;refine⟨rfl,by omega,by omega,by omega,by omega,by omega⟩)
def getS(zs:List Int):Int × Int × Int:=
 let m:=mea zs
 if m.2=0 then
  (if m.1=1 then zs.getD 0 0 else if m.1=2 then zs.getD 0 0 - 128+128*zs.getD 1 0 else zs.getD 0 0 - 128+128*(zs.getD 1 0 - 128)+16384*zs.getD 2 0,m.1,0)
 else(0,0,m.2)
theorem sum3(x y z:Int)(h0:128≤x∧x<256)(h1:128≤y∧y<256)(h2:0≤z∧z≤3) :
 bits .or .i64 (bits .or .i64 (bits .or .i64 0 (z*16384)) (wrap64 (wrap64 (bits .and .u8 y 127)*128))) (wrap64 (bits .and .u8 x 127))=x - 128+128*(y - 128)+16384*z:=by
 rw[Xdl y (by omega) (by omega),Xdl x (by omega) (by omega),Xfg _ (by omega) (by omega),IntWalk.wrap64_in (y % 128) ⟨by omega,by omega⟩,IntWalk.wrap64_in _ ⟨by omega,by omega⟩,IntWalk.wrap64_in (x % 128) ⟨by omega,by omega⟩,
  Xi0 14 (y % 128*128) (z*16384) (by omega) (by omega) (by omega) (by omega) (by omega) (by omega),Xi0 7 (x % 128) _ (by omega) (by omega) (by omega) (by omega) (by omega) (by omega)]
 omega
theorem sum2(x y:Int)(h0:128≤x∧x<256)(h1:0≤y∧y<128) :
 bits .or .i64 (bits .or .i64 0 (wrap64 (wrap64 (bits .and .u8 y 127)*128))) (wrap64 (bits .and .u8 x 127))=x - 128+128*y:=by
 rw[Xdl y (by omega) (by omega),Xdl x (by omega) (by omega),IntWalk.wrap64_in (y % 128) ⟨by omega,by omega⟩,IntWalk.wrap64_in _ ⟨by omega,by omega⟩,IntWalk.wrap64_in (x % 128) ⟨by omega,by omega⟩,Xfg _ (by omega) (by omega),
  Xi0 7 (x % 128) _ (by omega) (by omega) (by omega) (by omega) (by omega) (by omega)]
 omega
theorem sum1(x:Int)(h0:0≤x∧x<128):bits .or .i64 0 (wrap64 (bits .and .u8 x 127))=x:=by
 rw[Xdl x (by omega) (by omega),IntWalk.wrap64_in (x % 128) ⟨by omega,by omega⟩,Xfg _ (by omega) (by omega)];omega
section
variable(A:Option Addr)(n c:Nat)(w:World)
theorem Xgv(e5:Int)(h5:(e5 != 0)=true)(M:Hid (Calls Tryz.prog 161 #[.slice A n c] w fun e w'=>e=.returned (.tuple #[.int .i64 0,.int .i64 e5])∧w=w')) :
 Calls Tryz.prog 152 #[.slice A n c] w fun e w'=>e=.returned (.tuple #[.int .i64 0,.int .i64 0,.int .i64 e5])∧w=w':=by
 go_enter Tryz.func152,Tryz.ntmps152
 go_wp2_with fail;refine M.out.mono ?_;rintro e w1 ⟨rfl,rfl⟩;go_wp2_with fail;go_ret3
 exact⟨rfl,rfl⟩
variable(a:Addr)(x y z:Int)
theorem Xpf(M:Hid (Calls Tryz.prog 161 #[.slice (some a) n c] w fun e w'=>e=.returned (.tuple #[.int .i64 3,.int .i64 0])∧w=w'))
 (ca:w.cell? a=some (.int .u8 x)) (cb:w.cell? ⟨a.block,a.off+1,none⟩=some (.int .u8 y)) (cc:w.cell? ⟨a.block,a.off+2,none⟩=some (.int .u8 z)) (hn3:2<n) (hn:n≤2 ^ 63 - 1)
 (h0:128≤x∧x<256) (h1:128≤y∧y<256) (h2:0≤z∧z≤3) :
 Calls Tryz.prog 152 #[.slice (some a) n c] w fun e w'=>e=.returned (.tuple #[.int .i64 (x - 128+128*(y - 128)+16384*z),.int .i64 3,.int .i64 0])∧w=w':=by
 go_enter Tryz.func152,Tryz.ntmps152
 go_wp2_with fail;refine M.out.mono ?_;rintro e w1 ⟨rfl,rfl⟩;go_wp2_with fail;go_ret3
 exact⟨tup3 (sum3 x y z h0 h1 h2) rfl rfl,rfl⟩
theorem Xpo(M:Hid (Calls Tryz.prog 161 #[.slice (some a) n c] w fun e w'=>e=.returned (.tuple #[.int .i64 2,.int .i64 0])∧w=w'))
 (ca:w.cell? a=some (.int .u8 x)) (cb:w.cell? ⟨a.block,a.off+1,none⟩=some (.int .u8 y)) (hn3:1<n) (hn:n≤2 ^ 63 - 1)
 (h0:128≤x∧x<256) (h1:0≤y∧y<128) :
 Calls Tryz.prog 152 #[.slice (some a) n c] w fun e w'=>e=.returned (.tuple #[.int .i64 (x - 128+128*y),.int .i64 2,.int .i64 0])∧w=w':=by
 go_enter Tryz.func152,Tryz.ntmps152
 go_wp2_with fail;refine M.out.mono ?_;rintro e w1 ⟨rfl,rfl⟩;go_wp2_with fail;go_ret3
 exact⟨tup3 (sum2 x y h0 h1) rfl rfl,rfl⟩
theorem Xol(M:Hid (Calls Tryz.prog 161 #[.slice (some a) n c] w fun e w'=>e=.returned (.tuple #[.int .i64 1,.int .i64 0])∧w=w'))
 (ca:w.cell? a=some (.int .u8 x)) (hn3:0<n) (hn:n≤2 ^ 63 - 1)
 (h0:0≤x∧x<128) :
 Calls Tryz.prog 152 #[.slice (some a) n c] w fun e w'=>e=.returned (.tuple #[.int .i64 x,.int .i64 1,.int .i64 0])∧w=w':=by
 go_enter Tryz.func152,Tryz.ntmps152
 go_wp2_with fail;refine M.out.mono ?_;rintro e w1 ⟨rfl,rfl⟩;go_wp2_with fail;go_ret3
 exact⟨tup3 (sum1 x h0) rfl rfl,rfl⟩
end
theorem Xn3(A:Option Addr)(n c:Nat)(zs:List Int)(w:World)(S:Nat)
 (hx:Sees w S A n (bv zs)) (hn:n≤maxLen) (hb:Bytes zs) :
 Calls Tryz.prog 152 #[.slice A n c] w fun e w'=>e=.returned (.tuple #[.int .i64 (getS zs).1,.int .i64 (getS zs).2.1,.int .i64 (getS zs).2.2])∧w=w':=by
 have M:=Xur A n c zs w S hx hn hb;unfold maxLen at hn;have lx:=(show zs.length=n by have:=hx.len;rwa [bL]at this);have h0:=hb 0;have h1:=hb 1;have h2:=hb 2;rcases Xhj zs hb with(h | h) | ⟨h,hl,ha⟩ | ⟨h,hl,ha,hbb,hb2⟩ | ⟨h,hl,ha,hbb,hcc,hc2⟩
 ·have hg:getS zs=(0,0,4):=by simp[getS,h]
  rw[h]at M;rw[hg];exact Xgv A n c w 4 rfl (Hd M)
 ·have hg:getS zs=(0,0,5):=by simp[getS,h]
  rw[h]at M;rw[hg];exact Xgv A n c w 5 rfl (Hd M)
 ·have hg:getS zs=(zs.getD 0 0,1,0):=by simp[getS,h]
  rw[h]at M;rw[hg];obtain⟨a,rfl,_,ca⟩:=hx.byte (k:=0) (by omega);exact Xol n c w a _ (Hd M) ca (by omega) hn ⟨h0.1,ha⟩
 ·have hg:getS zs=(zs.getD 0 0 - 128+128*zs.getD 1 0,2,0):=by simp[getS,h]
  rw[h]at M;rw[hg];obtain⟨a,rfl,_,ca⟩:=hx.byte (k:=0) (by omega);obtain⟨_,e1,_,cb⟩:=hx.byte (k:=1) (by omega);cases e1
  exact Xpo n c w a _ _ (Hd M) ca cb (by omega) hn ⟨ha,h0.2⟩ ⟨h1.1,hbb⟩
 ·have hg:getS zs=(zs.getD 0 0 - 128+128*(zs.getD 1 0 - 128)+16384*zs.getD 2 0,3,0):=by simp[getS,h]
  rw[h]at M;rw[hg];obtain⟨a,rfl,_,ca⟩:=hx.byte (k:=0) (by omega);obtain⟨_,e1,_,cb⟩:=hx.byte (k:=1) (by omega);cases e1
  obtain⟨_,e1,_,cc⟩:=hx.byte (k:=2) (by omega);cases e1
  exact Xpf n c w a _ _ _ (Hd M) ca cb cc (by omega) hn ⟨ha,h0.2⟩ ⟨hbb,h1.2⟩ ⟨h2.1,hcc⟩
abbrev PR(α:Type):=Except Int (α × List Int)
def pTake(n:Nat)(zs:List Int):PR (List Int):=if zs.length<n then .error 5 else .ok (zs.take n,zs.drop n)
def pOctet(zs:List Int):PR Int:=match zs with | []=>.error 5 | z::r=>.ok (z,r)
def pShort(zs:List Int):PR Nat:=if (getS zs).2.2=0 then .ok ((getS zs).1.toNat,zs.drop (getS zs).2.1.toNat)else .error (getS zs).2.2
def pMany{α:Type}(one:List Int→PR α):Nat→List Int→PR (List α)
 | 0,zs=>.ok ([],zs)
 | n+1,zs=>match pMany one n zs with
  | .error c=>.error c
  | .ok (l,r)=>match one r with
   | .error c=>.error c
   | .ok (x,r')=>.ok (l++[x],r')
def pList{α:Type}(one:List Int→PR α)(zs:List Int):PR (List α):=match pShort zs with
 | .error c=>.error c
 | .ok (n,r)=>pMany one n r
def pBytes(zs:List Int):PR (List Int):=pList pOctet zs
def pIn(zs:List Int):PR LIn:=match pOctet zs with
 | .error c=>.error c
 | .ok (p,r)=>match pBytes r with
  | .error c=>.error c
  | .ok (a,r)=>match pBytes r with
   | .error c=>.error c
   | .ok (d,r)=>.ok (⟨p,a,d⟩,r)
def pLook(zs:List Int):PR LLook:=match pTake 32 zs with
 | .error c=>.error c
 | .ok (t,r)=>match pBytes r with
  | .error c=>.error c
  | .ok (a,r)=>match pBytes r with
   | .error c=>.error c
   | .ok (d,r)=>.ok (⟨t,a,d⟩,r)
def pFirst(zs:List Int):PR (Bool × Int):=match pOctet zs with
 | .error c=>.error c
 | .ok (f,r)=>if 128<f then .error 4 else if f=128 then(match pOctet r with
  | .error c=>.error c
  | .ok (s,r)=>.ok ((true,s),r))else .ok ((false,f),r)
def pLooks(v0:Bool)(zs:List Int):PR (List LLook):=if v0 then pList pLook zs else .ok ([],zs)
def pMsg(zs:List Int):PR LMsg:=match pFirst zs with
 | .error c=>.error c
 | .ok ((v0,s),r)=>match pOctet r with
  | .error c=>.error c
  | .ok (rs,r)=>match pOctet r with
   | .error c=>.error c
   | .ok (ro,r)=>match pList (pTake 32) r with
    | .error c=>.error c
    | .ok (ks,r)=>match pTake 32 r with
     | .error c=>.error c
     | .ok (h,r)=>match pList pIn r with
      | .error c=>.error c
      | .ok (is,r)=>match pLooks v0 r with
       | .error c=>.error c
       | .ok (ls,r)=>.ok (⟨v0,s,rs,ro,ks,h,is,ls⟩,r)
theorem AllBytes.drop{zs:List Int}(h:AllBytes zs)(k:Nat):AllBytes (zs.drop k):=fun z hz=>h z (List.mem_of_mem_drop hz)
theorem AllBytes.take{zs:List Int}(h:AllBytes zs)(k:Nat):AllBytes (zs.take k):=fun z hz=>h z (List.mem_of_mem_take hz)
theorem AllBytes.bytes{zs:List Int}(h:AllBytes zs):Bytes zs:=by
 intro i;rw[List.getD_eq_getElem?_getD];by_cases hi:i<zs.length
 ·rw[List.getElem?_eq_getElem hi];exact h _ (List.getElem_mem hi)
 ·rw[List.getElem?_eq_none (by omega)];simp
theorem Xdd(zs:List Int)(h:AllBytes zs):((getS zs=(0,0,4)∨getS zs=(0,0,5))∨∃n k:Nat,getS zs=((n:Int),(k:Int),0)∧n≤65535∧1≤k∧k≤zs.length):=by
 have hb:=h.bytes;have h0:=hb 0;have h1:=hb 1;have h2:=hb 2;rcases Xhj zs hb with(hm | hm) | ⟨hm,hl,ha⟩ | ⟨hm,hl,ha,hc,hd⟩ | ⟨hm,hl,ha,hc,hd,he⟩
 ·exact .inl (.inl (by simp[getS,hm]))
 ·exact .inl (.inr (by simp[getS,hm]))
 ·have e:getS zs=(zs.getD 0 0,1,0):=by simp[getS,hm]
  exact .inr ⟨(zs.getD 0 0).toNat,1,by rw[e,Int.toNat_of_nonneg (by omega)];rfl,by omega,by omega,hl⟩
 ·have e:getS zs=(zs.getD 0 0 - 128+128*zs.getD 1 0,2,0):=by simp[getS,hm]
  exact .inr ⟨(zs.getD 0 0 - 128+128*zs.getD 1 0).toNat,2,by rw[e,Int.toNat_of_nonneg (by omega)];rfl,by omega,by omega,hl⟩
 ·have e:getS zs=(zs.getD 0 0 - 128+128*(zs.getD 1 0 - 128)+16384*zs.getD 2 0,3,0):=by simp[getS,hm]
  exact .inr ⟨(zs.getD 0 0 - 128+128*(zs.getD 1 0 - 128)+16384*zs.getD 2 0).toNat,3,by rw[e,Int.toNat_of_nonneg (by omega)];rfl,by omega,by omega,hl⟩
def Left(zs r:List Int):Prop:=∃k,r=zs.drop k
theorem Left.refl(zs:List Int):Left zs zs:=⟨0,by simp⟩
theorem Left.trans{a b c:List Int}(h:Left a b)(k:Left b c):Left a c:=by
 obtain⟨i,rfl⟩:=h;obtain⟨j,rfl⟩:=k;exact⟨i+j,by simp⟩
theorem Left.bytes{a b:List Int}(h:Left a b)(ha:AllBytes a):AllBytes b:=by
 obtain⟨i,rfl⟩:=h;exact ha.drop i
theorem Left.le{a b:List Int}(h:Left a b):b.length≤a.length:=by
 obtain⟨i,rfl⟩:=h;simp
def FromFront{α:Type}(one:List Int→PR α):Prop:=∀zs x r,one zs=.ok (x,r)→Left zs r
theorem Xau:FromFront pOctet:=by
 intro zs x r h;match zs,h with
 | z::r',h=>cases h;exact⟨1,rfl⟩
theorem Xc4(n:Nat):FromFront (pTake n):=by
 intro zs x r h;unfold pTake at h;split at h
 ·cases h
 ·cases h;exact⟨n,rfl⟩
theorem Xee:FromFront pShort:=by
 intro zs x r h;unfold pShort at h;split at h
 ·cases h;exact⟨_,rfl⟩
 ·cases h
theorem Xf0{α:Type}{one:List Int→PR α}(h1:FromFront one):∀n,FromFront (pMany one n)
 | 0,zs,x,r,h=>by cases h;exact Left.refl _
 | n+1,zs,x,r,h=>by
  unfold pMany at h;split at h
  ·cases h
  ·rename_i l r1 e1
   split at h
   ·cases h
   ·rename_i y r2 e2
    cases h
    exact(Xf0 h1 n zs _ _ e1).trans (h1 _ _ _ e2)
theorem Xc0{α:Type}{one:List Int→PR α}(h1:FromFront one):FromFront (pList one):=by
 intro zs x r h;unfold pList at h;split at h
 ·cases h
 ·rename_i n r1 e1
  exact(Xee _ _ _ e1).trans (Xf0 h1 n _ _ _ h)
theorem Xcs:FromFront pBytes:=Xc0 Xau
theorem Xh6:FromFront pIn:=by
 intro zs x r h;unfold pIn at h;split at h
 ·cases h
 ·rename_i e1
  split at h
  ·cases h
  ·rename_i e2
   split at h
   ·cases h
   ·rename_i e3
    cases h
    exact((Xau _ _ _ e1).trans (Xcs _ _ _ e2)).trans (Xcs _ _ _ e3)
theorem Xj4:FromFront pLook:=by
 intro zs x r h;unfold pLook at h;split at h
 ·cases h
 ·rename_i e1
  split at h
  ·cases h
  ·rename_i e2
   split at h
   ·cases h
   ·rename_i e3
    cases h
    exact((Xc4 32 _ _ _ e1).trans (Xcs _ _ _ e2)).trans (Xcs _ _ _ e3)
section
variable{P:Program}
theorem Xd2(w:World)(p:Addr)(ty:TypeId)(cs:List Value)(d:TypeDesc)(hc:∀j v,cs[j]?=some v→w.cell? (p.add j)=some v)
 (hu:P.underlying ty=some d) (hd:d.isRow=true) (hi:(P.info? ty).map (·.size)=some cs.length) :
 (Instr.loadAt ty (.pointer (some p))).run P w=.ok (.agg cs.toArray) w:=by
 have hl:(loadCells p cs.length).run P w=.ok cs.toArray w:=run_loadCells_list (P:=P) w p cs hc;cases hq:P.info? ty with
 | none=>simp[hq]at hi
 | some i =>
  have hs:i.size=cs.length:=by simpa [hq]using hi
  have hagg:(isAgg ty).run P w=.ok true w:=by
   unfold isAgg;rw[Sem.run_bind,run_underlying hu w];cases d <;> simp_all
  simp[Instr.loadAt,Instr.sureAddr,loadVar,Sem.run_bind,hagg,sizeOf,typeInfo,hq,hs,hl]
theorem Xa3{ops:Array Oper}{rest:List Oper}{op:Oper}{a:Act}{w:World}{Q:Exit→Act→World→Prop}(hgd:op.guard=none)(ty:TypeId)(x:Operand)(ho:op.op=.load ty x)
 (p:Addr) (cs:List Value) (d:TypeDesc) (hu:P.underlying ty=some d) (hd:d.isRow=true) (hi:(P.info? ty).map (·.size)=some cs.length) (hc:∀j v,cs[j]?=some v→w.cell? (p.add j)=some v)
 (hx:a.eval x=.pointer (some p)) (h:wpList P ops Q rest (a.put op.dst (.agg cs.toArray)) w):wpList P ops Q (op::rest) a w:=
 wpList_plain hgd fun _ hK=>by
  unfold Oper.wp execOp;simp only[ho,hx,Sem.run_bind,Sem.run_pure,Xd2 w p ty cs d hc hu hd hi,Result.andThen_ok];exact hK _ _ h
theorem Xa0{ops:Array Oper}{rest:List Oper}{op:Oper}{a:Act}{w:World}{Q:Exit→Act→World→Prop}(hgd:op.guard=none)(ty:TypeId)(x:Operand)(ho:op.op=.load ty x)
 (g t:Nat) (cs:List Value) (d:TypeDesc) (hu:P.underlying ty=some d) (hd:d.isRow=true) (hi:(P.info? ty).map (·.size)=some cs.length) (hr:Row w g t cs)
 (hx:a.eval x=.pointer (some ⟨g,0,none⟩)) (h:wpList P ops Q rest (a.put op.dst (.agg cs.toArray)) w):wpList P ops Q (op::rest) a w:=
 Xa3 hgd ty x ho ⟨g,0,none⟩ cs d hu hd hi (fun j v hv=>by rw[Xa5,hr.cell];simpa using hv) hx h
theorem Xdz(w:World)(g ty:Nat)(c cs:List Value)(hr:Row w g ty c)(hi:(P.info? ty).map (·.size)=some cs.length)(hl:c.length=cs.length)(h1:∀u ∈ cs,u.oneCell'=true) :
 (Instr.storeAt ty (.pointer (some ⟨g,0,none⟩)) (.agg cs.toArray)).run P w=.ok () (w.setRow g cs.toArray):=by
 have:=run_storeVar_row (P:=P) w g ty ty c.toArray cs.toArray hr.is (by simpa using hi) (by simpa using hl) (all_oneCell_toArray h1);simp only[Instr.storeAt,Instr.sureAddr,Sem.run_bind,Sem.run_pure,Result.andThen_ok,this]
structure Turned(w w':World)(g:Nat):Prop where
 os:w'.os=w.os
 tape:w'.tape=w.tape
 output:w'.output=w.output
 size:w'.heap.size=w.heap.size
 block:∀k,k≠g→w'.heap[k]?=w.heap[k]?
theorem Xek(w:World)(g:Nat)(cs:Array Value):Turned w (w.setRow g cs) g:=
 ⟨rfl,rfl,rfl,by simp,fun k hk=>setRow_other w g k cs hk⟩
theorem Xa2(w:World)(p:Addr)(u:Value):Turned w (w.setCell p u) p.block:=
 ⟨rfl,rfl,rfl,by simp[World.setCell],fun k hk=>Below.heap_setCell _ _ _ _ hk⟩
theorem Xgb{w:World}{g t:Nat}{c:List Value}(hr:Row w g t c)(cs:List Value):Row (w.setRow g cs.toArray) g t cs:=
 ⟨setRow_heap w g c.toArray cs.toArray t _ hr.is⟩
theorem Turned.below{w w':World}{g B:Nat}(h:Turned w w' g)(hB:B≤g):Below B w w':=
 ⟨h.os,h.tape,h.output,by rw[h.size];exact Lr _,fun k hk=>h.block k (by omega)⟩
theorem Turned.row{w w':World}{g k t:Nat}{xs:List Value}(h:Turned w w' g)(hr:Row w k t xs)(hk:k≠g):Row w' k t xs:=⟨(h.block k hk).trans hr.is⟩
theorem Xa4{ops:Array Oper}{rest:List Oper}{op:Oper}{a:Act}{w:World}{Q:Exit→Act→World→Prop}(hgd:op.guard=none)(ty:TypeId)(x y:Operand)(ho:op.op=.store ty x y)
 (g:Nat) (c cs:List Value) (hr:Row w g ty c) (hi:(P.info? ty).map (·.size)=some cs.length) (hl:c.length=cs.length) (h1:∀u ∈ cs,u.oneCell'=true)
 (hx:a.eval x=.pointer (some ⟨g,0,none⟩)) (hy:a.eval y=.agg cs.toArray)
 (h:∀w',Row w' g ty cs→Turned w w' g→wpList P ops Q rest (a.put op.dst undef) w'):wpList P ops Q (op::rest) a w:=
 wpList_plain hgd fun _ hK=>by
  unfold Oper.wp execOp;simp only[ho,hx,hy,Sem.run_bind,Sem.run_pure,Xdz w g ty c cs hr hi hl h1,Result.andThen_ok];exact hK _ _ (h _ (Xgb hr cs) (Xek w g _))
theorem Xa1{ops:Array Oper}{rest:List Oper}{op:Oper}{a:Act}{w0:World}{c:Array Value}{Q:Exit→Act→World→Prop}(hgd:op.guard=none)(ty:TypeId)(x y:Operand)(ho:op.op=.store ty x y)
 (cs:List Value) (hi:(P.info? ty).map (·.size)=some cs.length) (h1:∀u ∈ cs,u.oneCell'=true) (hl:c.size=cs.length)
 (hx:a.eval x=.pointer (some ⟨w0.heap.size,0,none⟩)) (hy:a.eval y=.agg cs.toArray)
 (h:∀w',Row w' w0.heap.size ty cs→Below w0.heap.size w0 w'→w'.heap.size=w0.heap.size+1→wpList P ops Q rest (a.put op.dst undef) w'):wpList P ops Q (op::rest) a (w0.alloc (.cells c ty)):=by
 have hr:Row (w0.alloc (.cells c ty)) w0.heap.size ty c.toList:=by
  have:=Row.new w0 ty c.toList;simpa using this
 refine Xa4 hgd ty x y ho w0.heap.size c.toList cs hr hi (by simpa using hl) h1 hx hy fun w' hr' ht=>?_
 exact h w' hr' (((Br _ w0).alloc (Lr _) _).trans (ht.below (Lr _))) (by rw[ht.size];simp)
theorem Xep{g t:Nat}:∀(cs:List Value) (w:World) (o:Nat) (c:List Value),Row w g t c→o+cs.length≤c.length→Row (w.setCells g o cs) g t (c.take o++cs++c.drop (o+cs.length))
 | [],w,o,c,h,_=>by simpa [World.setCells]using h
 | v::r,w,o,c,h,hl=>by
  have h1:=Xep r (w.setCell ⟨g,o,none⟩ v) (o+1) (c.set o v) (h.set_ o v) (by simp at hl ⊢;omega);have e:(c.set o v).take (o+1)++r++(c.set o v).drop (o+1+r.length)=c.take o++(v::r)++c.drop (o+(v::r).length):=by
   have ho:o<c.length:=by simp at hl;omega
   rw[List.take_succ_eq_append_getElem (by simpa using ho),List.drop_set_of_lt (by omega),List.take_set_of_le (Lr o)];simp only[List.getElem_set_self,List.append_assoc,List.cons_append,List.nil_append,List.length_cons];rw[show o+1+r.length=o+(r.length+1) by omega]
  rw[e]at h1;exact h1
theorem Xdk{g:Nat}:∀(cs:List Value) (w:World) (o:Nat),Turned w (w.setCells g o cs) g
 | [],w,o=>⟨rfl,rfl,rfl,rfl,fun _ _=>rfl⟩
 | v::r,w,o=>by
  have h1:=Xa2 w ⟨g,o,none⟩ v;have h2:=Xdk (g:=g) r (w.setCell ⟨g,o,none⟩ v) (o+1);exact⟨h2.os.trans h1.os,h2.tape.trans h1.tape,h2.output.trans h1.output,h2.size.trans h1.size,fun k hk=>(h2.block k hk).trans (h1.block k hk)⟩
theorem Xa9{ops:Array Oper}{rest:List Oper}{op:Oper}{a:Act}{w:World}{Q:Exit→Act→World→Prop}(hgd:op.guard=none)(ty:TypeId)(x y:Operand)(ho:op.op=.store ty x y)
 (g t o:Nat) (c cs:List Value) (hr:Row w g t c) (hi:(P.info? ty).map (·.size)=some cs.length) (hl:o+cs.length≤c.length) (h1:∀u ∈ cs,u.oneCell'=true)
 (hx:a.eval x=.pointer (some ⟨g,o,none⟩)) (hy:a.eval y=.agg cs.toArray)
 (h:∀w',Row w' g t (c.take o++cs++c.drop (o+cs.length))→Turned w w' g→wpList P ops Q rest (a.put op.dst undef) w'):wpList P ops Q (op::rest) a w:=
 wpList_store_mid hgd ty x y ho g o cs.toArray hx hy (fun j hj=>⟨by
  have hj':j<cs.length:=by simpa using hj
  rw[hr.cell,List.getElem?_eq_getElem (by omega)];rfl,hr.frozen _⟩) (by simpa using hi) (all_oneCell_toArray h1)
  (h _ (by simpa using Xep cs w o c hr hl) (Xdk cs w o))
end
def OwnB(w:World)(base:Nat)(v:Value)(xs:List Int):Prop:=w.ownsRow base 5 1 v xs.length (bv xs)
theorem Xal{w w':World}{base n size:Nat}{e:TypeId}{v:Value}{xs:List Value}(h:w.ownsRow base e size v n xs)(hb:Below w.heap.size w w'):w'.ownsRow base e size v n xs:=by
 refine⟨h.1,?_⟩;rcases h.2 with h2 | ⟨g,cap,cur,hv,hg,hh,r⟩
 ·exact .inl h2
 ·exact .inr ⟨g,cap,cur,hv,hg,(hb.block g (Array.getElem?_eq_some_iff.1 hh).1).trans hh,r⟩
theorem OwnB.below{w w':World}{base:Nat}{v:Value}{xs:List Int}(h:OwnB w base v xs)(hb:Below w.heap.size w w'):OwnB w' base v xs:=Xal h hb
theorem OwnB.alloc{w:World}{base:Nat}{v:Value}{xs:List Int}(h:OwnB w base v xs)(o:Obj):OwnB (w.alloc o) base v xs:=World.ownsRow.alloc h o
theorem OwnB.nil(w:World)(base:Nat):OwnB w base (.slice none 0 0) []:=World.ownsRow_nil w base _ _
theorem OwnB.form{w:World}{base:Nat}{v:Value}{xs:List Int}(h:OwnB w base v xs):∃A c,v=.slice A xs.length c:=Xcd h
theorem OwnB.sees{w:World}{base:Nat}{A:Option Addr}{n c:Nat}{xs:List Int}(h:OwnB w base (.slice A n c) xs):Sees w w.heap.size A n (bv xs):=by
 obtain⟨A',c',e⟩:=h.form;cases e
 exact Sees.of_own h
structure Grew(w w':World)(v v':Value):Prop where
 grown:w.grownBy w' v.ownBlock
 fresh:∀k,v'.ownBlock=some k→v.ownBlock=some k∨w.heap.size≤k
section
variable{w w' w'':World}{v v' v'':Value}
theorem Grew.refl(w:World)(v:Value):Grew w w v v:=⟨World.grownBy.refl w _,fun k h=>.inl h⟩
theorem Grew.size(h:Grew w w' v v'):w.heap.size≤w'.heap.size:=h.grown.size
theorem Grew.trans(h:Grew w w' v v')(k:Grew w' w'' v' v''):Grew w w'' v v'':=
 ⟨⟨k.grown.os.trans h.grown.os,k.grown.tape.trans h.grown.tape,k.grown.output.trans h.grown.output,Lq h.size k.size,fun i hi hne =>
  (k.grown.block i (Nat.lt_of_lt_of_le hi h.size) fun e=>by
    rcases h.fresh i e.symm with h1 | h1
    ·exact hne h1.symm
    ·omega).trans (h.grown.block i hi hne)⟩,
  fun i hi=>by
   rcases k.fresh i hi with h1 | h1
   ·exact h.fresh i h1
   ·exact .inr (Lq h.size h1)⟩
theorem Grew.of_below(hb:Below w.heap.size w w')(v:Value):Grew w w' v v:=⟨⟨hb.os,hb.tape,hb.output,hb.size,fun k hk _=>hb.block k hk⟩,fun k h=>.inl h⟩
theorem Grew.row{g t:Nat}{ys:List Value}(h:Grew w w' v v')(hr:Row w g t ys)(hg:some g≠v.ownBlock):Row w' g t ys:=hr.grown h.grown hg
theorem Grew.ne{g:Nat}(h:Grew w w' v v')(hg:some g≠v.ownBlock)(hlt:g<w.heap.size):some g≠v'.ownBlock:=fun e=>by
 rcases h.fresh g e.symm with h1 | h1
 ·exact hg h1.symm
 ·omega
theorem Grew.below{base n size:Nat}{e:TypeId}{xs:List Value}(h:Grew w w' v v')(hown:w.ownsRow base e size v n xs)(hbase:base≤w.heap.size):Below base w w':=
 (Br base w).grown h.grown hbase fun k hk=>(hown.lt k hk).1
theorem Grew.belowB{base:Nat}{xs:List Int}(h:Grew w w' v v')(hown:OwnB w base v xs)(hbase:base≤w.heap.size):Below base w w':=
 (Br base w).grown h.grown hbase fun k hk=>(World.ownsRow.lt hown k hk).1
theorem Xd8{base n size:Nat}{e:TypeId}{xs:List Value}(hown:w.ownsRow base e size v n xs){g:Nat}(hg:w.heap.size≤g):some g≠v.ownBlock:=fun e'=>by
 have:=(hown.lt g e'.symm).2;omega
end
def Adds(w:World)(base:Nat)(v:Value)(ys:List Int)(e:Ending)(w':World):Prop:=
 ∃v',e=.returned v'∧OwnB w' base v' ys∧Grew w w' v v'
theorem Xb8{P:Program}{w:World}{ops:Array Oper}{rest:List Oper}{o:Oper}{a:Act}{Q:Exit→Act→World→Prop}(hgd:o.guard=none)(s x:Operand)(t:TypeId)
 (ho:o.op=.call { callee:=.builtin .append,args:=#[s,x],argTypes:=#[t,t] })
 (base:Nat) (ht:P.underlying t=some (.slice 5)) (hi:(P.info? 5).map (fun i=>(i.zero,i.size,i.bytes))=some (some (.int .u8 0),1,1))
 (v:Value) (xs:List Int) (hs:a.eval s=v) (hown:OwnB w base v xs) (B:Nat) (A:Option Addr) (m c:Nat) (news:List Int) (hx:a.eval x=.slice A m c) (hr:Sees w B A m (bv news))
 (hbase:base≤w.heap.size) (hnm:(xs++news).length≤1099511627776)
 (h:∀v' w',OwnB w' base v' (xs++news)→Grew w w' v v'→wpList P ops Q rest (a.put o.dst v') w'):wpList P ops Q (o::rest) a w:=by
 obtain⟨i0,hi,hz0,hz1,hz2⟩:=info_parts hi;have hm:news.length=m:=by have:=hr.len;rwa [bL]at this
 subst hm;have hl:xs.length+news.length≤1099511627776:=by simpa using hnm
 refine Xbw hgd s x t ho base 5 i0 _ 1 ht hi hz0 hz1 hz2 rfl v xs.length (bv xs) hs hown B A _ c (bv news) hx hr (Xae news) (by unfold maxLen;omega) (by omega) hbase ?_;intro v' w' ho' hg hat;refine h v' w' ?_ ⟨hg,fun k hk=>?_⟩
 ·have:=ho';unfold OwnB;rw[Xbt];simpa using this
 ·rcases hat with hat | hat
  ·exact .inl (hat ▸ hk)
  ·rw[hat]at hk;cases hk
   exact .inr (Lr _)
theorem Xc2{P:Program}{w0:World}{c:Array Value}{ops:Array Oper}{rest:List Oper}{o:Oper}{a:Act}{Q:Exit→Act→World→Prop}(hgd:o.guard=none)(s x:Operand)(t:TypeId)
 (ho:o.op=.call { callee:=.builtin .append,args:=#[s,x],argTypes:=#[t,t] })
 (base:Nat) (ht:P.underlying t=some (.slice 5)) (hi:(P.info? 5).map (fun i=>(i.zero,i.size,i.bytes))=some (some (.int .u8 0),1,1))
 (v:Value) (xs news:List Int) (cc:Nat) (hc:c=(bv news).toArray) (hs:a.eval s=v) (hown:OwnB w0 base v xs) (hx:a.eval x=.slice (some ⟨w0.heap.size,0,none⟩) news.length cc)
 (hbase:base≤w0.heap.size) (hnm:(xs++news).length≤1099511627776)
 (h:∀v' w',OwnB w' base v' (xs++news)→Grew w0 w' v v'→wpList P ops Q rest (a.put o.dst v') w'):wpList P ops Q (o::rest) a (w0.alloc (.cells c 5)):=by
 subst hc;have hr:=(Row.new w0 5 (bv news)).sees0;rw[bL]at hr;refine Xb8 hgd s x t ho base ht hi v xs hs (hown.alloc _) _ _ _ cc news hx hr (by simp;omega) hnm ?_;intro v' w' ho' hg';exact h v' w' ho' ((Grew.of_below ((Br _ w0).alloc (Lr _) _) v).trans hg')
theorem Xcw(x:Int):(short x).length≤3:=by rw[Xqo];(repeat' split) <;> omega
theorem Xey(base:Nat)(v:Value)(xs:List Int)(x:Nat)(w:World)(hown:OwnB w base v xs)(hbase:base≤w.heap.size)(hx:x≤65535)(hn:xs.length≤1099511620000) :
 Calls Tryz.prog 103 #[v,.int .i64 x] w (Adds w base v (xs++short x)):=by
 have HP:=Hd (Xnf none 0 0 [] w 0 x (Sees.nil _ _ _) (by omega) (by omega) (by omega) (by omega));have HO:=Hd hown;clear hown;go_enter Tryz.func103,Tryz.ntmps103
 go_wp2_with fail;refine HP.out.mono ?_;rintro e w1 ⟨g,rfl,hg,hr,hb1⟩;have hown1:=HO.out.below hb1;have hs1:Sees w1 w1.heap.size (some ⟨g,0,none⟩) (short x).length (bv (short x)):=by
  have:=hr.sees0;simpa [bL]using this
 have hz1:=hb1.size;have hl:=Xcw x;clear hr;go_wp2_with (at_builtin;go_must(refine Xb8 rfl (.tmp 12) (.tmp 13) 22 rfl base Tryz.underlying22 Xb3 v xs rfl hown1 _ _ _ _ (short x) (by first | rfl | (simp;done)) hs1 (by omega) (by simp;omega) ?_);intro v2 w2 ho2 hb2)
 go_ret;exact⟨v2,rfl,ho2,(Grew.of_below hb1 v).trans hb2⟩
theorem Xdy(base B:Nat)(v u:Value)(xs l:List Int)(w:World)(hown:OwnB w base v xs)(hbase:base≤w.heap.size)(hu:BytesIn w B u l)(hB:B≤base)(hx:l.length≤65535)(hn:xs.length≤1099511500000) :
 Calls Tryz.prog 104 #[v,u] w (Adds w base v (xs++encL l)):=by
 obtain⟨A,c,rfl,hs,_,_⟩:=hu.is;have HP:=Hd (Xey base v xs l.length w hown hbase hx (by omega));have HO:=Hd hown;clear hown hu;go_enter Tryz.func104,Tryz.ntmps104
 go_wp2_with fail;refine HP.out.mono ?_;rintro e w1 ⟨v1,rfl,hown1,hb1⟩;have hz1:=hb1.size;have hs1:=hs.below ((hb1.below HO.out hbase).mono hB);have hl:=Xcw l.length;go_wp2_with (at_builtin;go_must(refine Xb8 rfl (.tmp 8) (.tmp 9) 22 rfl base Tryz.underlying22 Xb3 v1 _ rfl hown1 _ _ _ _ l rfl hs1 (by omega) (by simp;omega) ?_);intro v2 w2 ho2 hb2)
 go_ret;refine⟨v2,rfl,?_,hb1.trans hb2⟩;rw[encL,←List.append_assoc];exact ho2
theorem clip_(A:Option Addr)(n c:Nat)(w:World)(hnc:n≤c)(hc:c≤maxLen) :
 Calls Tryz.prog 106 #[.slice A n c] w fun e w'=>e=.returned (.slice A n n)∧w=w':=by
 unfold maxLen at hc;go_enter Tryz.func106,Tryz.ntmps106
 go_wp2;go_ret;exact⟨rfl,rfl⟩
end Go.Proofs.YtdgbodljmdcagaaGreatDoor
