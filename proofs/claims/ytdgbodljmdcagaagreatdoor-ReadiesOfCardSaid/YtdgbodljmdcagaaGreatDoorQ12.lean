import Derived.Test.YtdgbodljmdcagaaGreatDoorQ11
import Derived.Lib.Mul64
import Derived.Laws.Bits64b
import Derived.Laws.Externs
import Derived.Lib.BitFns
import Derived.Shelf.Small.Bits
set_option maxRecDepth 100000
set_option maxHeartbeats 16000000
set_option linter.unusedSimpArgs false
set_option linter.unusedVariables false
namespace Go.Proofs.YtdgbodljmdcagaaGreatDoor
open Go.RowKit Go.Maps
structure KL7 where
 A:Option Addr
 n:Nat
 c:Nat
 l:List (List Int)
def KL7.val(x:KL7):Value:=.slice x.A x.n x.c
def cat(ls:List KL7):List (List Int):=ls.flatMap fun x=>x.l
def bT7:DataW Unit:=.lit (.bool true)
def KeyOk7(k:List Int):Prop:=k.length=32∧AllBytes k
structure KL7.In(w:World)(B:Nat)(x:KL7):Prop where
 keys:KeysIn w B x.A x.n x.l
 ok:∀k ∈ x.l,KeyOk7 k
 most:x.n≤4000
theorem KL7.In.below{w w':World}{B:Nat}{x:KL7}(h:x.In w B)(hb:Below B w w'):x.In w' B:=⟨h.keys.below hb,h.ok,h.most⟩
theorem Xkg{ls:List KL7}{k:Nat}{x:KL7}(h:ls[k]?=some x):cat (ls.take (k+1))=cat (ls.take k)++x.l:=by
 unfold cat;rw[List.take_add_one,List.flatMap_append,h];simp
theorem Xwi{ls:List KL7}{w:World}{B:Nat}(h:∀x ∈ ls,x.In w B):(cat ls).length≤4000*ls.length:=by
 induction ls with
 | nil=>simp[cat]
 | cons y r ih =>
  have h1:=ih fun x hx=>h x (by simp[hx])
  have h2:=(h y (by simp)).keys.len;have h3:=(h y (by simp)).most;unfold cat at h1 ⊢;rw[List.flatMap_cons,List.length_append,List.length_cons];omega
theorem cat_ok{ls:List KL7}{w:World}{B:Nat}(h:∀x ∈ ls,x.In w B):∀k ∈ cat ls,KeyOk7 k:=fun k hk=>by
 unfold cat at hk;obtain⟨x,hx,hk⟩:=List.mem_flatMap.1 hk;exact(h x hx).ok k hk
theorem Xi5{l:List (List Int)}{x:List Int}:(l++[x]).Nodup↔l.Nodup∧x ∉ l:=by
 rw[List.nodup_append];simp only[List.mem_singleton];constructor
 ·rintro⟨h1,_,h3⟩;exact⟨h1,fun hm=>h3 x hm x rfl rfl⟩
 ·rintro⟨h1,h2⟩;exact⟨h1,by simp,fun a ha b hb e=>h2 (by rw[←hb,←e];exact ha)⟩
theorem Xhk{l r:List (List Int)}(h:¬l.Nodup):¬(l++r).Nodup:=fun hn=>h (List.nodup_append.1 hn).1
theorem Xsw{ls:List KL7}{k:Nat}{x:KL7}(h:ls[k]?=some x)(j:Nat):∃r,cat ls=cat (ls.take k)++x.l.take j++r:=by
 refine⟨x.l.drop j++cat (ls.drop (k+1)),?_⟩;have e:ls=ls.take k++x::ls.drop (k+1):=by
  have h1:=(List.getElem?_eq_some_iff.1 h);obtain⟨hk,hx⟩:=h1;rw[←hx,List.getElem_cons_drop,List.take_append_drop]
 conv=>lhs;rw[e]
 unfold cat;rw[List.flatMap_append,List.flatMap_cons];conv=>lhs;rw[←List.take_append_drop j x.l]
 simp only[List.append_assoc]
theorem twice7(g N B:Nat)(ls:List KL7)(w:World)(hr:Row w g 34 (ls.map KL7.val))(hN:ls.length=N)(hN3:N≤3)(hs:∀x ∈ ls,x.In w B)(hB:B≤w.heap.size) :
 Calls Tryz.prog 132 #[.slice (some ⟨g,0,none⟩) N N] w fun e w'=>e=.returned (.bool (decide (¬(cat ls).Nodup)))∧Below w.heap.size w w':=by
 have hmm:=@run_makeMap Tryz.prog;have HIN:=Hd hs;have HR:=Hd hr;have HNL:=Hd hN;have hz:∀u:World,(zeroValue 4).run Tryz.prog u=.ok (.bool false) u:=Xi9;have HZ:=Hd hz;clear hs hr hN hz;go_enter Tryz.func132,Tryz.ntmps132
 go_wp2;go_loopw [11] (fun i wr=>∃k:Nat,k≤N∧i=.int .i64 k∧(cat (ls.take k)).Nodup∧wr.ownsMap Tryz.prog 78 (plainElem Tryz.prog 4) w.heap.size (cat (ls.take k)).length (KSet bT7 (cat (ls.take k)))∧Below w.heap.size w wr) (fun i _=>N - (intOf i).toNat)
 case atStart=>exact⟨0,Nat.zero_le _,rfl,by simp[cat],World.ownsMap_made _ _ _ _,(Br _ _).alloc (Lr _) _⟩
 case round =>
  obtain⟨k,hk,rfl,hnd,hown,hbw⟩:=hrel;have HND:=Hd hnd;have HO:=Hd hown;have HBW:=Hd hbw;clear hnd hown hbw;by_cases hlt:k<N
  ·obtain⟨x,hx⟩:∃x,ls[k]?=some x:=⟨_,List.getElem?_eq_getElem (by rw[HNL.out];exact hlt)⟩;have HXI:=Hd (HIN.out x (List.mem_of_getElem? hx));have c0:wr.cell? ⟨g,k,none⟩=some (.slice x.A x.n x.c):=(HBW.out.cell (p:=⟨g,k,none⟩) HR.out.lt).trans (by rw[HR.out.cell,List.getElem?_map,hx];rfl);have HPO:Hid (∀y ∈ cat (ls.take k),KeyOk7 y):=Hd (cat_ok (w:=w) (B:=B) fun y hy=>HIN.out y (List.mem_of_mem_take hy));have HPL:Hid ((cat (ls.take k)).length≤12000):=Hd (by
    have:=Xwi (w:=w) (B:=B) (ls:=ls.take k) fun y hy=>HIN.out y (List.mem_of_mem_take hy)
    rw[List.length_take]at this;omega)
   have HFR:Hid (∀j,∃r,cat ls=cat (ls.take k)++x.l.take j++r):=Hd (Xsw hx);have HSU:Hid (cat (ls.take (k+1))=cat (ls.take k)++x.l):=Hd (Xkg hx);have hmost:=HXI.out.most;have HXL:=Hd HXI.out.keys.len;obtain⟨A,n,c,l⟩:=x;dsimp only at c0 HXI HFR HSU hmost HXL
   clear hx;generalize cat (ls.take k)=pre at *;go_wp2;obtain⟨wm,hwm⟩:∃u:World,u=wr:=⟨_,rfl⟩;subst hwm;go_loopw [17] (fun i wr=>∃j:Nat,j≤n∧i=.int .i64 j∧(pre++l.take j).Nodup∧wr.ownsMap Tryz.prog 78 (plainElem Tryz.prog 4) w.heap.size (pre.length+j) (KSet bT7 (pre++l.take j))∧Below w.heap.size w wr) (fun i _=>n - (intOf i).toNat)
   case atStart=>exact⟨0,Nat.zero_le _,rfl,by simpa using HND.out,by simpa using HO.out,HBW.out⟩
   case round =>
    clear HND HO HBW c0;obtain⟨j,hj,rfl,hnd,hown,hbw⟩:=hrel;have HND:=Hd hnd;have HO:=Hd hown;have HBW:=Hd hbw;clear hnd hown hbw;by_cases hlt2:j<n
    ·obtain⟨a,y,rfl,hab,hx,hat⟩:=(HXI.out.keys.below (HBW.out.mono hB)).get hlt2;have hyb:KeyOk7 y:=HXI.out.ok y (List.mem_of_getElem? hx);have HSZ:=Hd (show(Tryz.prog.info? 78).map (·.size)=some (bv y).length by rw[bL,hat.len];exact Xab);have HYL:=Hd (show(bv y).length=32 by rw[bL,hat.len]);have HCE:=Hd hat.cells;have HKL:=Hd (KL_is hyb.1 hyb.2);have hle:∀z ∈ pre++l.take j,z.length=32∧AllBytes z:=fun z hz=>by
      rcases List.mem_append.1 hz with hz | hz
      ·exact HPO.out z hz
      ·exact HXI.out.ok z (List.mem_of_mem_take hz)
     have hatk:=Xse bT7 (.lit (.bool false)) (pre++l.take j) hle y hyb;have HTK:=Hd (show pre++l.take (j+1)=(pre++l.take j)++[y] by rw[List.take_add_one,hx,List.append_assoc];rfl);have H1:=Hd (Xae y);have hpl:=HPL.out;generalize hcs:bv y=cs at *;clear hcs;by_cases hm:y ∈ pre++l.take j
     ·have HC:Hid ((KSet bT7 (pre++l.take j)).atKey (KL y) (.lit (.bool false))=.lit (.bool true)):=Hd (by rw[hatk,if_pos hm];rfl);have HQ:Hid (decide (¬(cat ls).Nodup)=true):=Hd (decide_eq_true (by
       obtain⟨r,hr⟩:=HFR.out (j+1);rw[hr];refine Xhk ?_;rw[HTK.out,Xi5];exact fun h=>h.2 hm))
      clear hatk hm hle hyb hx hat;go_wp2_with (first
       | ((with_reducible show wpList _ _ _ (⟨some 20,_,_,_,_,_⟩::_) _ _);go_must(refine Xa3 rfl 78 (.tmp 19) rfl (a.add (j*32)) cs _ Tryz.underlying78 rfl HSZ.out HCE.out ?_ ?_;go_simp))
       | ((with_reducible show wpList _ _ _ (⟨none,Op.store 78 _ _,_,_,_,_⟩::_) _ _);go_must(refine Xa1 rfl 78 (.tmp 7) (.tmp 20) rfl cs HSZ.out H1.out (by rw[HYL.out];rfl) ?_ ?_ ?_;go_simp;go_simp;intro w1 hr1 hb1 hz1;have R1:=Hd hr1;have B1:=Hd hb1;clear hr1 hb1 hz1))
       | ((with_reducible show wpList _ _ _ (⟨some 22,_,_,_,_,_⟩::_) _ _);go_must(refine Xa0 rfl 78 (.tmp 7) rfl _ 78 cs _ Tryz.underlying78 rfl HSZ.out R1.out ?_ ?_;go_simp))
       | (at_lookup;go_must(refine Xb9 _ rfl _ _ 213 rfl 78 4 Xdu Tryz.underlying213 Tryz.underlying4 (HZ.out _) w.heap.size (pre.length+j) _ rfl (HO.out.kept (Xda B1.out) (by simp)) _ _ rfl HKL.out true HC.out ?_)))
      go_ret;exact⟨Xad HQ.out.symm,HBW.out.trans (B1.out.mono HBW.out.size)⟩
     ·have HC:Hid ((KSet bT7 (pre++l.take j)).atKey (KL y) (.lit (.bool false))=.lit (.bool false)):=Hd (by rw[hatk,if_neg hm]);have HQ:Hid ((pre++l.take (j+1)).Nodup):=Hd (by rw[HTK.out,Xi5];exact⟨HND.out,hm⟩);clear hatk hm hle hyb hx hat;go_wp2_with (first
       | ((with_reducible show wpList _ _ _ (⟨some 20,_,_,_,_,_⟩::_) _ _);go_must(refine Xa3 rfl 78 (.tmp 19) rfl (a.add (j*32)) cs _ Tryz.underlying78 rfl HSZ.out HCE.out ?_ ?_;go_simp))
       | ((with_reducible show wpList _ _ _ (⟨none,Op.store 78 _ _,_,_,_,_⟩::_) _ _);go_must(refine Xa1 rfl 78 (.tmp 7) (.tmp 20) rfl cs HSZ.out H1.out (by rw[HYL.out];rfl) ?_ ?_ ?_;go_simp;go_simp;intro w1 hr1 hb1 hz1;have R1:=Hd hr1;have B1:=Hd hb1;clear hr1 hb1 hz1))
       | ((with_reducible show wpList _ _ _ (⟨some 22,_,_,_,_,_⟩::_) _ _);go_must(refine Xa0 rfl 78 (.tmp 7) rfl _ 78 cs _ Tryz.underlying78 rfl HSZ.out R1.out ?_ ?_;go_simp))
       | ((with_reducible show wpList _ _ _ (⟨some 25,_,_,_,_,_⟩::_) _ _);go_must(refine Xa0 rfl 78 (.tmp 7) rfl _ 78 cs _ Tryz.underlying78 rfl HSZ.out R1.out ?_ ?_;go_simp))
       | (at_lookup;go_must(refine Xb9 _ rfl _ _ 213 rfl 78 4 Xdu Tryz.underlying213 Tryz.underlying4 (HZ.out _) w.heap.size (pre.length+j) _ rfl (HO.out.kept (Xda B1.out) (by simp)) _ _ rfl HKL.out false HC.out ?_))
       | (at_mapUpdate;go_must(refine wpList_mapUpdate_own _ rfl _ _ _ 213 rfl 78 4 Xdu Tryz.underlying213 _ w.heap.size (pre.length+j) _ rfl (HO.out.kept (Xda B1.out) (by simp)) (by unfold maxLen;omega) _ _ _ rfl rfl HKL.out bT7 [] (plainElem_bool Tryz.underlying4 true) ?_);intro w2 hown2 hgr2;have O2:=Hd hown2;have G2:=Hd hgr2;clear hown2 hgr2))
      go_roundw
      case rel=>exact⟨j+1,by omega,by go_num,HQ.out,by rw[HTK.out,Xib];exact O2.out,(HBW.out.trans (B1.out.mono HBW.out.size)).grown G2.out (HBW.out.trans (B1.out.mono HBW.out.size)).size (fun j hj=>by cases hj;exact Lr _)⟩
      case measure=>simp[intOf];omega
    ·have hkn:j=n:=by omega
     have HE:Hid ((pre++l).Nodup∧wr.ownsMap Tryz.prog 78 (plainElem Tryz.prog 4) w.heap.size (pre++l).length (KSet bT7 (pre++l))):=Hd (by
      have h1:=HND.out;have h2:=HO.out;rw[hkn,List.take_of_length_le (by rw[HXL.out];exact Lr _)]at h1 h2;exact⟨h1,by rw[List.length_append,HXL.out];exact h2⟩)
     clear hkn HND HO;go_wp2;go_roundw
     case rel=>exact⟨k+1,by omega,by go_num,by rw[HSU.out];exact HE.out.1,by rw[HSU.out];exact HE.out.2,HBW.out⟩
     case measure=>simp[intOf];omega
  ·have hkn:k=N:=by omega
   have HE:Hid (decide (¬(cat ls).Nodup)=false):=Hd (by
    have h1:=HND.out;rw[hkn,List.take_of_length_le (by rw[HNL.out];exact Lr _)]at h1;exact decide_eq_false (fun h=>h h1))
   clear hkn;go_wp2;go_ret;exact⟨Xad HE.out.symm,HBW.out⟩
open Go.RowKit
def ownRoles(m:LMsg)(j:Nat):List LRole:=(List.range j).map fun i=>ownRole m (m.keys.getD i []) i
def wRole(k:List Int):LRole:=⟨k,false,!kn k⟩
def rRole(k:List Int):LRole:=⟨k,false,false⟩
def rolesL(m:LMsg)(wl rl:List (List Int)):List LRole:=ownRoles m m.keys.length++(wl.map wRole++rl.map rRole)
def cellsR(L:List LRole):List Value:=(L.map LRole.cells).flatten
theorem Xct(L:List LRole)(r:LRole):cellsR (L++[r])=cellsR L++r.cells:=by simp[cellsR]
theorem Xk6(m:LMsg)(k:Nat):ownRoles m (k+1)=ownRoles m k++[ownRole m (m.keys.getD k []) k]:=by
 unfold ownRoles;rw[List.range_succ,List.map_append];rfl
theorem Xl7(m:LMsg)(k:Nat):(ownRoles m k).length=k:=by simp[ownRoles]
theorem Xd6{α β:Type}(f:α→β){l:List α}{j:Nat}{x:α}(h:l[j]?=some x):(l.take (j+1)).map f=(l.take j).map f++[f x]:=by
 rw[List.take_add_one,h,List.map_append];rfl
theorem Xgh(m:LMsg)(wl rl:List (List Int)):(rolesL m wl rl).length=m.keys.length+wl.length+rl.length:=by
 unfold rolesL;rw[List.length_append,List.length_append,Xl7,List.length_map,List.length_map];omega
theorem zszR:zR.cells.size=34:=by kernel_rfl
def OfDone(w:World)(m:LMsg)(wl rl:List (List Int))(e:Ending)(w':World):Prop:=
 Below w.heap.size w w'∧if (m.keys++(wl++rl)).Nodup then ∃A c,e=.returned (.tuple #[.slice A (rolesL m wl rl).length (rolesL m wl rl).length,.int .i64 0])∧w'.ownsRow w.heap.size 101 34 (.slice A (rolesL m wl rl).length c) (rolesL m wl rl).length (cellsR (rolesL m wl rl))
  else e=.returned (.tuple #[.slice none 0 0,.int .i64 9])
theorem clipR(A:Option Addr)(n c:Nat)(w:World)(hnc:n≤c)(hc:c≤9223372036854775807) :
 Calls Tryz.prog 135 #[.slice A n c] w fun e w'=>e=.returned (.slice A n n)∧w=w':=by
 go_enter Tryz.func135,Tryz.ntmps135
 go_wp2;go_ret;exact⟨rfl,rfl⟩
theorem Xhc{w:World}{base size n c:Nat}{e:TypeId}{A:Option Addr}{xs:List Value}(h:w.ownsRow base e size (.slice A n c) n xs):n≤c∧c≤9223372036854775807:=by
 rcases h.2 with⟨h1,rfl⟩ | ⟨g,cap,cur,hv,_,_,h1,h2,_⟩
 ·injection h1 with _ h2 h3
  subst h3;exact⟨Lr _,Nat.zero_le _⟩
 ·injection hv with _ _ h3
  subst h3;unfold maxLen at h2;exact⟨h1,by omega⟩
theorem Xij{w:World}{base base' size n:Nat}{e:TypeId}{v:Value}{xs:List Value}(h:w.ownsRow base e size v n xs)(hb:base'≤base):w.ownsRow base' e size v n xs:=by
 refine⟨h.1,?_⟩;rcases h.2 with h2 | ⟨g,cap,cur,h1,h2,h3⟩
 ·exact .inl h2
 ·exact .inr ⟨g,cap,cur,h1,Lq hb h2,h3⟩
theorem of7(q:Raw)(m:LMsg)(x y:KL7)(B:Nat)(w:World)(hk:KeysIn w B q.KA q.kn m.keys)(hko:∀k ∈ m.keys,KeyOk7 k)(hre:m.recent.length=32)(hB:B≤w.heap.size)(hs:IsByte m.s)(hr:IsByte m.r)(ho:IsByte m.o)(hn:q.kn≤4000)(hx:x.In w B)(hy:y.In w B) :
 Calls Tryz.prog 85 #[.agg (q.cells m).toArray,x.val,y.val] w (OfDone w m x.l y.l):=by
 have hlen:=hk.len;have rm:=Row.new w 40 (q.cells m);have hb0:Below w.heap.size w (w.alloc (.cells (q.cells m).toArray 40)):=(Br w.heap.size w).alloc (Lr _) _;have hb1:Below w.heap.size w ((w.alloc (.cells (q.cells m).toArray 40)).alloc (.cells ([(⟨q.KA,q.kn,q.kc,m.keys⟩:KL7),x,y].map KL7.val).toArray 34)):=hb0.alloc (by simp) _;have hls:∀z ∈ [(⟨q.KA,q.kn,q.kc,m.keys⟩:KL7),x,y],z.In ((w.alloc (.cells (q.cells m).toArray 40)).alloc (.cells ([(⟨q.KA,q.kn,q.kc,m.keys⟩:KL7),x,y].map KL7.val).toArray 34)) B:=fun z hz=>by
  refine KL7.In.below ?_ (hb1.mono hB);simp only[List.mem_cons,List.not_mem_nil,or_false]at hz;rcases hz with rfl | rfl | rfl
  ·exact⟨hk,hko,hn⟩
  ·exact hx
  ·exact hy
 have ht0:=(twice7 (w.heap.size+1) 3 B _ _ (Row.new' (w.alloc (.cells (q.cells m).toArray 40)) 34 ([(⟨q.KA,q.kn,q.kc,m.keys⟩:KL7),x,y].map KL7.val) (by simp)) rfl (by omega) hls (by simp;omega));simp only[List.map_cons,List.map_nil,KL7.val]at ht0;have HT:=Hd ht0;clear ht0;have HCAT:Hid (cat [(⟨q.KA,q.kn,q.kc,m.keys⟩:KL7),x,y]=m.keys++(x.l++y.l)):=Hd (by simp[cat]);have hrm:=rm.alloc (.cells ([(⟨q.KA,q.kn,q.kc,m.keys⟩:KL7),x,y].map KL7.val).toArray 34);simp only[List.map_cons,List.map_nil,KL7.val]at hrm;have HRM:=Hd hrm;clear hrm;have c4:(w.alloc (.cells (q.cells m).toArray 40)).cell? ⟨w.heap.size,4,none⟩=some (.slice q.KA q.kn q.kc):=(rm.cell 4).trans rfl;simp only[List.map_cons,List.map_nil,KL7.val]at hb1;have HB1:=Hd hb1;have HK:=Hd hk;have HKO:=Hd hko;have HX:=Hd hx;have HY:=Hd hy;have HXL:=Hd hx.keys.len;have HYL:=Hd hy.keys.len;have HLEN:=Hd hlen;have HSM:=Hd (show(Tryz.prog.info? 40).map (·.size)=some (q.cells m).length by rw[Xat,Xaq hre]);have HOWN:Hid (∀(W:World) (i:Nat) k,Below w.heap.size w W→m.keys[i]?=some k→Calls Tryz.prog 133 #[.agg (q.cells m).toArray,.int .i64 i] W fun e w'=>e=.returned (.agg (ownRole m k i).cells.toArray)∧Below W.heap.size W w'):=Hd fun W i k hW hi =>
  own7 q m k i B W (hk.below (hW.mono hB)) hre (Lq hB hW.size) hi hs hr ho (by omega)
 have HROK:Hid (∀i k,m.keys[i]?=some k→(ownRole m k i).cells.length=34∧∀u ∈ (ownRole m k i).cells,u.oneCell'=true):=Hd fun i k hi=>⟨Xc3 (hko k (List.mem_of_getElem? hi)).1,Xd3 _⟩
 have hxm:=hx.most;have hym:=hy.most;have HGD:Hid (∀i k,m.keys[i]?=some k→m.keys.getD i []=k):=Hd fun i k hi=>by rw[List.getD_eq_getElem?_getD,hi];rfl
 have HL3:Hid (rolesL m x.l y.l=ownRoles m q.kn++(x.l.map wRole++y.l.map rRole)):=Hd (by unfold rolesL;rw[hlen]);have HC4:Hid ((q.cells m)[4]?=some (.slice q.KA q.kn q.kc)):=Hd rfl;generalize q.cells m=MC at *;obtain⟨xA,xn,xc,xl⟩:=x;obtain⟨yA,yn,yc,yl⟩:=y;obtain⟨KA,n,kc,IA,ni,ic,LA,ln,lc⟩:=q;dsimp only[KL7.val]at *
 clear hk hko hre hs hr ho hx hy hlen rm hb0 hb1 hls;go_enter Tryz.func85,Tryz.ntmps85
 go_wp2_with fail;refine HT.out.mono ?_;rintro e w1 ⟨rfl,hb⟩;have HB2:=Hd (HB1.out.trans (hb.mono HB1.out.size));have HM1:=Hd (HRM.out.below hb HRM.out.lt);rw[HCAT.out];clear hb HT HB1 HRM HCAT c4;by_cases hnd:(m.keys++(xl++yl)).Nodup
 ·have ht:decide (¬(m.keys++(xl++yl)).Nodup)=false:=decide_eq_false (fun h=>h hnd);rw[ht];have HND:=Hd hnd;clear ht hnd;have d4:w1.cell? ⟨w.heap.size,4,none⟩=some (.slice KA n kc):=(HM1.out.cell 4).trans HC4.out;go_wp2_with fail;clear d4;go_loopw [23,8] (fun i v wr=>∃k:Nat,k≤n∧i=.int .i64 k∧wr.ownsRow w1.heap.size 101 34 v k (cellsR (ownRoles m k))∧Below w1.heap.size w1 wr) (fun i _ _=>n - (intOf i).toNat)
  case atStart=>exact⟨0,Nat.zero_le _,rfl,World.ownsRow_nil _ _ _ _,Br _ _⟩
  case round =>
  obtain⟨k,hk,rfl,ho,hb⟩:=hrel;have HO:=Hd ho;have HB:=Hd hb;clear ho hb;by_cases hlt:k<n
  ·obtain⟨key,hki⟩:∃key,m.keys[k]?=some key:=⟨_,List.getElem?_eq_getElem (by rw[HLEN.out];exact hlt)⟩;have HMR:=Hd (HM1.out.below HB.out HM1.out.lt);have HC:=Hd (HOWN.out wr k key (HB2.out.trans (HB.out.mono HB2.out.size)) hki);have HRO:=Hd (HROK.out k key hki);have HSU:Hid (cellsR (ownRoles m (k+1))=cellsR (ownRoles m k)++(ownRole m key k).cells):=Hd (by rw[Xk6,Xct,HGD.out k key hki]);have HWZ:=Hd HB.out.size;clear hki;generalize (ownRole m key k).cells=RC at *;go_wp2_with ((with_reducible show wpList _ _ _ (⟨some 27,_,_,_,_,_⟩::_) _ _);go_must(refine Xa0 rfl 40 (.tmp 3) rfl w.heap.size 40 MC _ Tryz.underlying40 rfl HSM.out HMR.out ?_ ?_;go_simp))
   refine HC.out.mono ?_;rintro e w2 ⟨rfl,hb2⟩;have O2:=Hd (Xal HO.out hb2);have B2:=Hd (HB.out.trans (hb2.mono HB.out.size));clear hb2;go_wp2_with (first
    | ((with_reducible show wpList _ _ _ (⟨some 30,_,_,_,_,_⟩::_) _ _);go_must(refine Xaa rfl 43 101 (.tmp 29) rfl RC _ 34 34 Tryz.underlying43 infoR zszR (by omega) (by omega) HRO.out.1 ?_ ?_;go_simp))
    | (at_builtin;go_must(refine Xag rfl (.tmp 26) (.tmp 30) 43 rfl w1.heap.size 101 _ 34 34 Tryz.underlying43 infoR zszR (by omega) _ k (cellsR (ownRoles m k)) RC 1 HRO.out.1 HRO.out.2 rfl ?_ O2.out ?_ B2.out.size (by unfold maxLen;omega) (by omega) ?_;go_simp;go_simp;intro v4 w4 ho4 hg4;have O4:=Hd ho4;have G4:=Hd hg4;clear ho4 hg4)))
   go_roundw
   case rel=>exact⟨k+1,by omega,by go_num,by rw[HSU.out];exact O4.out,(B2.out.grown G4.out.grown B2.out.size fun j hj=>(O2.out.lt j hj).1)⟩
   case measure=>simp[intOf];omega
  ·obtain rfl:k=n:=by omega
   go_wp2_with fail;obtain⟨wm,hwm⟩:∃u:World,u=wr:=⟨_,rfl⟩;subst hwm;go_loopw [35,8] (fun i v wr=>∃j:Nat,j≤xn∧i=.int .i64 j∧wr.ownsRow w1.heap.size 101 34 v (k+j) (cellsR (ownRoles m k++(xl.take j).map wRole))∧Below w1.heap.size w1 wr) (fun i _ _=>xn - (intOf i).toNat)
   case atStart=>exact⟨0,Nat.zero_le _,rfl,by simpa using HO.out,HB.out⟩
   case round =>
   clear HO HB;obtain⟨j,hj,rfl,ho,hb⟩:=hrel;have HO:=Hd ho;have HB:=Hd hb;clear ho hb;by_cases hlt2:j<xn
   ·obtain⟨a,z,rfl,hab,hz,hat⟩:=(HX.out.keys.below ((HB2.out.trans (HB.out.mono HB2.out.size)).mono hB)).get hlt2;have HSZ:=Hd (show(Tryz.prog.info? 78).map (·.size)=some (bv z).length by rw[bL,hat.len];exact Xab);have HZL:=Hd (show(bv z).length=32 by rw[bL,hat.len]);have HCE:=Hd hat.cells;have H1:=Hd (Xae z);have HKN:=Hd (fun w=>Xvm z w hat.len);have HSU:Hid (cellsR (ownRoles m k++(xl.take (j+1)).map wRole)=cellsR (ownRoles m k++(xl.take j).map wRole)++(bv z++[Value.bool false,.bool (!kn z)])):=Hd (by rw[Xd6 wRole hz,←List.append_assoc,Xct];rfl);have HRL:Hid (∀b,(bv z++[Value.bool false,.bool b]).length=34∧∀u ∈ bv z++[Value.bool false,.bool b],u.oneCell'=true):=Hd fun b=>⟨Xc3 (r:=⟨z,false,b⟩) hat.len,Xd3 ⟨z,false,b⟩⟩
    clear hat hz;generalize kn z=bb at *;generalize bv z=X at *;go_wp2_with (first
     | ((with_reducible show wpList _ _ _ (⟨some 38,_,_,_,_,_⟩::_) _ _);go_must(refine Xa3 rfl 78 (.tmp 37) rfl (a.add (j*32)) X _ Tryz.underlying78 rfl HSZ.out HCE.out ?_ ?_;go_simp))
     | ((with_reducible show wpList _ _ _ (⟨none,Op.store 78 _ _,_,_,_,_⟩::_) _ _);go_must(refine Xa1 rfl 78 (.tmp 11) (.tmp 38) rfl X HSZ.out H1.out (by rw[HZL.out];rfl) ?_ ?_ ?_;go_simp;go_simp;intro w2 hr1 hb1 hz1;have R1:=Hd hr1;have B1:=Hd hb1;clear hr1 hb1 hz1)))
    have OO2:=Hd (Xal HO.out B1.out);have BB2:=Hd (HB.out.trans (B1.out.mono HB.out.size));have hwz:=HB.out.size;generalize wr.heap.size=gx at *;refine wp_region_held_drew (S:=(fun V=>Row V gx 78 X)) (by kernel_rfl) R1.out.drew (fun _=>?_);have OO3:Hid (w2.drew.ownsRow _ _ _ _ _ _):=Hd OO2.out.drew;have BB3:=Hd BB2.out.drew;have RR3:=Hd R1.out.drew;clear OO2 BB2 R1 B1;generalize w2.drew=w3 at *;refine Tk 0 rfl ?_ RR3.out ?_ ⟨?_,rfl⟩
    ·intro w hw;(try dsimp only at hw);go_simp;try with_reducible rfl
    try simp only[nm]
    refine Tl 1 (v:=.agg X.toArray) rfl (Or.inl ⟨by rfl,fun wz hwz=>Xa8 wz 78 (.tmp 11) rfl ⟨gx,0,none⟩ X _ Tryz.underlying78 rfl HSZ.out (fun j u hu=>by rw[Xa5,Nat.zero_add];exact(hwz.cell j).trans hu) (by go_simp)⟩) RR3.out ?_;try simp only[nm]
    refine Tl 2 (v:=.agg X.toArray) rfl (Or.inl ⟨by rfl,fun wz hwz=>Xa8 wz 78 (.tmp 11) rfl ⟨gx,0,none⟩ X _ Tryz.underlying78 rfl HSZ.out (fun j u hu=>by rw[Xa5,Nat.zero_add];exact(hwz.cell j).trans hu) (by go_simp)⟩) RR3.out ?_;try simp only[nm]
    refine Rl 3 rfl fun K hK=>?_
    go_simp;refine(HKN.out _).mono ?_;rintro e w5 ⟨rfl,hb5⟩;have RR5:=Hd (RR3.out.below hb5 RR3.out.lt);have OO5:=Hd (Xal OO3.out hb5);have BB4:=Hd (BB3.out.trans (hb5.mono BB3.out.size));clear hb5;refine hK.out _ _ RR5.out ?_;clear hK K;try simp only[nm]
    refine Tk 4 rfl ?_ RR5.out ?_ ⟨?_,rfl⟩
    ·intro w hw;(try dsimp only at hw);go_simp;try with_reducible rfl
    try simp only[nm]
    refine Tl 5 (v:=.agg (X++[Value.bool false,.bool (!bb)]).toArray) rfl (Or.inl ⟨by rfl,fun wz hwz=>Xak wz _ _ _ rfl (by simp only[List.map_toArray,List.map_cons,List.map_nil];exact Xii HZL.out _)⟩) RR5.out ?_;try simp only[nm]
    refine Rl 6 rfl fun K hK=>?_
    refine Xay 43 101 (.tmp 44) rfl (X++[Value.bool false,.bool (!bb)]) _ 34 34 Tryz.underlying43 infoR zszR (by omega) (by omega) (HRL.out _).1 ?_ ?_
    ·go_simp
    refine hK.out _ _ (RR5.out.alloc _) ?_;clear hK K;try simp only[nm]
    refine Rl 7 rfl fun K hK=>?_
    refine Xca (.tmp 39) (.tmp 45) 43 rfl w1.heap.size 101 _ 34 34 Tryz.underlying43 infoR zszR (by omega) _ (k+j) _ (X++[Value.bool false,.bool (!bb)]) 1 (HRL.out _).1 (HRL.out _).2 rfl ?_ OO5.out ?_ BB4.out.size (by unfold maxLen;omega) (by omega) ?_
    ·go_simp
    ·go_simp
    intro v4 w4 ho4 hg4;have O4:=Hd ho4;have BB5:=Hd (BB4.out.grown hg4.grown BB4.out.size fun j hj=>(OO5.out.lt j hj).1);have RR6:=Hd (RR5.out.grown hg4.grown (Xch OO5.out RR5.out (by decide)));clear ho4 hg4;refine hK.out _ _ RR6.out ?_;clear hK K;try simp only[nm]
    refine Tk 8 rfl ?_ RR6.out ?_ ⟨?_,rfl⟩
    ·intro w hw;(try dsimp only at hw);go_simp;try with_reducible rfl
    try simp only[nm]
    refine wpAnyH_done (by kernel_rfl) ?_ _;go_wp2_with fail;go_roundw
    case rel=>exact⟨j+1,by omega,by go_num,by rw[HSU.out];exact O4.out,BB5.out⟩
    case measure=>simp[intOf];omega
   ·obtain rfl:j=xn:=by omega
    have HO2:Hid (wr.ownsRow w1.heap.size 101 34 u8 (k+j) (cellsR (ownRoles m k++xl.map wRole))):=Hd (by
     have:=HO.out;rwa [List.take_of_length_le (by rw[HXL.out];exact Lr _)]at this)
    clear HO;go_wp2_with fail;obtain⟨wm,hwm⟩:∃u:World,u=wr:=⟨_,rfl⟩;subst hwm;go_loopw [50,8] (fun i v wr=>∃t:Nat,t≤yn∧i=.int .i64 t∧wr.ownsRow w1.heap.size 101 34 v (k+j+t) (cellsR (ownRoles m k++xl.map wRole++(yl.take t).map rRole))∧Below w1.heap.size w1 wr) (fun i _ _=>yn - (intOf i).toNat)
    case atStart=>exact⟨0,Nat.zero_le _,rfl,by simpa using HO2.out,HB.out⟩
    case round =>
    clear HO2 HB;obtain⟨t,ht,rfl,ho,hb⟩:=hrel;have HO:=Hd ho;have HB:=Hd hb;clear ho hb;by_cases hlt3:t<yn
    ·obtain⟨a,z,rfl,hab,hz,hat⟩:=(HY.out.keys.below ((HB2.out.trans (HB.out.mono HB2.out.size)).mono hB)).get hlt3;have HSZ:=Hd (show(Tryz.prog.info? 78).map (·.size)=some (bv z).length by rw[bL,hat.len];exact Xab);have HZL:=Hd (show(bv z).length=32 by rw[bL,hat.len]);have HCE:=Hd hat.cells;have H1:=Hd (Xae z);have HSU:Hid (cellsR (ownRoles m k++xl.map wRole++(yl.take (t+1)).map rRole)=cellsR (ownRoles m k++xl.map wRole++(yl.take t).map rRole)++(bv z++[Value.bool false,.bool false])):=Hd (by rw[Xd6 rRole hz,←List.append_assoc,Xct];rfl);have HRL:Hid ((bv z++[Value.bool false,.bool false]).length=34∧∀u ∈ bv z++[Value.bool false,.bool false],u.oneCell'=true):=Hd ⟨Xc3 (r:=⟨z,false,false⟩) hat.len,Xd3 ⟨z,false,false⟩⟩;clear hat hz;generalize bv z=X at *;go_wp2_with (first
      | ((with_reducible show wpList _ _ _ (⟨some 53,_,_,_,_,_⟩::_) _ _);go_must(refine Xa3 rfl 78 (.tmp 52) rfl (a.add (t*32)) X _ Tryz.underlying78 rfl HSZ.out HCE.out ?_ ?_;go_simp))
      | ((with_reducible show wpList _ _ _ (⟨none,Op.store 78 _ _,_,_,_,_⟩::_) _ _);go_must(refine Xa1 rfl 78 (.tmp 13) (.tmp 53) rfl X HSZ.out H1.out (by rw[HZL.out];rfl) ?_ ?_ ?_;go_simp;go_simp;intro w2 hr1 hb1 hz1;have R1:=Hd hr1;have B1:=Hd hb1;clear hr1 hb1 hz1))
      | ((with_reducible show wpList _ _ _ (⟨some 55,_,_,_,_,_⟩::_) _ _);go_must(refine Xa0 rfl 78 (.tmp 13) rfl _ 78 X _ Tryz.underlying78 rfl HSZ.out R1.out ?_ ?_;go_simp))
      | ((with_reducible show wpList _ _ _ (⟨some 56,_,_,_,_,_⟩::_) _ _);go_must(refine wpList_plain rfl fun K hK=>Xav _ _ _ rfl (by simp only[List.map_toArray,List.map_cons,List.map_nil];exact Xcf HZL.out) (hK _ _ ?_)))
      | ((with_reducible show wpList _ _ _ (⟨some 57,_,_,_,_,_⟩::_) _ _);go_must(refine Xaa rfl 43 101 (.tmp 56) rfl (X++[Value.bool false,.bool false]) _ 34 34 Tryz.underlying43 infoR zszR (by omega) (by omega) HRL.out.1 ?_ ?_;go_simp))
      | (at_builtin;go_must(refine Xag rfl (.tmp 54) (.tmp 57) 43 rfl w1.heap.size 101 _ 34 34 Tryz.underlying43 infoR zszR (by omega) _ (k+j+t) (cellsR (ownRoles m k++xl.map wRole++(yl.take t).map rRole)) (X++[Value.bool false,.bool false]) 1 HRL.out.1 HRL.out.2 rfl ?_ (Xal HO.out B1.out) ?_ (HB.out.trans (B1.out.mono HB.out.size)).size (by unfold maxLen;omega) (by omega) ?_;go_simp;go_simp;intro v4 w4 ho4 hg4;have O4:=Hd ho4;have G4:=Hd hg4;clear ho4 hg4)))
     go_roundw
     case rel=>exact⟨t+1,by omega,by go_num,by rw[HSU.out];exact O4.out,((HB.out.trans (B1.out.mono HB.out.size)).grown G4.out.grown (HB.out.trans (B1.out.mono HB.out.size)).size fun j hj=>(HO.out.lt j hj).1)⟩
     case measure=>simp[intOf];omega
    ·obtain rfl:t=yn:=by omega
     have HO2:Hid (∃A c,u8=.slice A (k+j+t) c):=Hd (Xao HO.out);obtain⟨A,c,he⟩:=HO2.out;have HO3:Hid (wr.ownsRow w1.heap.size 101 34 u8 (k+j+t) (cellsR (rolesL m xl yl))):=Hd (by
      have:=HO.out;rwa [List.take_of_length_le (by rw[HYL.out];exact Lr _),List.append_assoc,←HL3.out]at this)
     have HLL:Hid ((rolesL m xl yl).length=k+j+t):=Hd (by rw[Xgh,HLEN.out,HXL.out,HYL.out]);clear HO2;subst he;have HCL:=Hd (clipR A (k+j+t) c wr (Xhc HO.out).1 (Xhc HO.out).2);clear HO;go_wp2_with fail;refine HCL.out.mono ?_;rintro e w9 ⟨rfl,rfl⟩;go_wp2_with fail;go_ret2
     refine⟨HB2.out.trans (HB.out.mono HB2.out.size),?_⟩;rw[if_pos HND.out,HLL.out];exact⟨A,c,rfl,Xij HO3.out HB2.out.size⟩
 ·have ht:decide (¬(m.keys++(xl++yl)).Nodup)=true:=decide_eq_true hnd;rw[ht];have HND:=Hd hnd;clear ht hnd;go_wp2_with fail;go_ret2
  refine⟨HB2.out,?_⟩;rw[if_neg HND.out];rfl
theorem Xsm{m:LMsg}{wl rl:List (List Int)}(hm:∀k ∈ m.keys,KeyOk7 k)(hw:∀k ∈ wl,KeyOk7 k)(hr:∀k ∈ rl,KeyOk7 k):∀r ∈ rolesL m wl rl,RoleOk r:=fun r h=>by
 unfold rolesL at h;rcases List.mem_append.1 h with h | h
 ·unfold ownRoles at h;obtain⟨i,hi,rfl⟩:=List.mem_map.1 h;have hi:i<m.keys.length:=by simpa using hi
  have e:m.keys.getD i []=m.keys[i]:=by rw[List.getD_eq_getElem?_getD,List.getElem?_eq_getElem hi];rfl
  rw[e];exact hm _ (List.getElem_mem hi)
 ·rcases List.mem_append.1 h with h | h
  ·obtain⟨k,hk,rfl⟩:=List.mem_map.1 h;exact hw k hk
  ·obtain⟨k,hk,rfl⟩:=List.mem_map.1 h;exact hr k hk
def wrK(l:List LRole):List (List Int):=(l.filter fun r=>r.wr).map LRole.key
theorem Xfm{l:List LRole}{k:Nat}{r:LRole}(h:l[k]?=some r):wrK (l.take (k+1))=wrK (l.take k)++if r.wr then[r.key]else[]:=by
 unfold wrK;rw[List.take_add_one,h,List.filter_append,List.map_append];cases hw:r.wr <;> simp[hw]
theorem Xq8(l:List LRole):(wrK l).length≤l.length:=by
 unfold wrK;rw[List.length_map];exact List.length_filter_le _ _
def WrittenDone(w:World)(l:List LRole)(e:Ending)(w':World):Prop:=
 Below w.heap.size w w'∧∃A c,e=.returned (.slice A (wrK l).length (wrK l).length)∧w'.ownsRow w.heap.size 78 32 (.slice A (wrK l).length c) (wrK l).length (bv (wrK l).flatten)
theorem Xuz(A:Option Addr)(n c B:Nat)(l:List LRole)(w:World)(hl:RolesIn w B A n l)(hB:B≤w.heap.size)(hn:n≤100000) :
 Calls Tryz.prog 30 #[.slice A n c] w (WrittenDone w l):=by
 have HLN:=Hd hl.len;have HL:=Hd hl;clear hl;go_enter Tryz.func30,Tryz.ntmps30
 go_wp2_with fail;go_loopw [8,3] (fun i v wr=>∃k:Nat,k≤n∧i=.int .i64 k∧wr.ownsRow w.heap.size 78 32 v (wrK (l.take k)).length (bv (wrK (l.take k)).flatten)∧Below w.heap.size w wr) (fun i _ _=>n - (intOf i).toNat)
 case atStart=>exact⟨0,Nat.zero_le _,rfl,by simpa [wrK,bv,cv]using World.ownsRow_nil _ _ _ _,Br _ _⟩
 case round =>
  obtain⟨k,hk,rfl,ho,hb⟩:=hrel;have HO:=Hd ho;have HB:=Hd hb;clear ho hb;by_cases hlt:k<n
  ·obtain⟨a,r,rfl,hab,hr,hro,hcr⟩:=(HL.out.below (HB.out.mono hB)).get hlt;have HSU:=Hd (Xfm hr);have HCR:=Hd hcr;have HSR:=Hd (Xfp hro.1);have HRL:=Hd (Xc3 hro.1);have HR1:=Hd (Xd3 r);have HWR:=Hd (Xjy hro.1);have HRK:Hid (∀j u,(bv r.key)[j]?=some u→r.cells[j]?=some u):=Hd fun j u hu=>Xju hu
   have HSZ:=Hd (show(Tryz.prog.info? 78).map (·.size)=some (bv r.key).length by rw[bL,hro.1];exact Xab);have HKL:Hid ((bv r.key).length=32):=Hd (by rw[bL,hro.1]);have H1:=Hd (Xae r.key);have hwl:(wrK (l.take k)).length≤100000:=by
    have:=Xq8 (l.take k);rw[List.length_take]at this;omega
   generalize r.cells=rc at *;obtain⟨wn,hwn⟩:∃wn,wn=(wrK (l.take k)).length:=⟨_,rfl⟩;rw[←hwn]at HO hwl;have HWN:=Hd hwn;clear hwn;clear hr hcr hro;by_cases hw:r.wr=true
   ·rw[hw]at HWR HSU;have HSU2:Hid (wrK (l.take (k+1))=wrK (l.take k)++[r.key]):=Hd HSU.out;have HXX:Hid (bv [r.key].flatten=bv r.key):=Hd (by simp);generalize bv r.key=X at *;clear hw HSU;go_wp2_with (first
     | ((with_reducible show wpList _ _ _ (⟨some 11,_,_,_,_,_⟩::_) _ _);go_must(refine Xa3 rfl 101 (.tmp 10) rfl (a.add (k*34)) rc _ Tryz.underlying101 rfl HSR.out HCR.out ?_ ?_;go_simp))
     | ((with_reducible show wpList _ _ _ (⟨none,Op.store 101 _ _,_,_,_,_⟩::_) _ _);go_must(refine Xa1 rfl 101 (.tmp 5) (.tmp 11) rfl rc HSR.out HR1.out (by rw[HRL.out];rfl) ?_ ?_ ?_;go_simp;go_simp;intro w2 hr1 hb1 hz1;have R1:=Hd hr1;have B1:=Hd hb1;clear hr1 hb1 hz1;have d33:=(R1.out.cell 33).trans HWR.out))
     | ((with_reducible show wpList _ _ _ (⟨some 16,_,_,_,_,_⟩::_) _ _);go_must(refine Xa3 rfl 78 (.tmp 15) rfl ⟨wr.heap.size,0,none⟩ X _ Tryz.underlying78 rfl HSZ.out (fun j u hu=>by rw[Xa5,Nat.zero_add];exact(R1.out.cell j).trans (HRK.out j u hu)) ?_ ?_;go_simp))
     | ((with_reducible show wpList _ _ _ (⟨some 17,_,_,_,_,_⟩::_) _ _);go_must(refine Xaa rfl 34 78 (.tmp 16) rfl X _ 32 32 Tryz.underlying34 Xg5 (by kernel_rfl) (by omega) (by omega) HKL.out ?_ ?_;go_simp))
     | (at_builtin;go_must(refine Xag rfl (.tmp 14) (.tmp 17) 34 rfl w.heap.size 78 _ 32 32 Tryz.underlying34 Xg5 (by kernel_rfl) (by omega) _ wn _ X 1 HKL.out H1.out rfl ?_ (Xal HO.out B1.out) ?_ (HB.out.trans (B1.out.mono HB.out.size)).size (by unfold maxLen;omega) (by omega) ?_;go_simp;go_simp;intro v4 w4 ho4 hg4;have O4:=Hd ho4;have G4:=Hd hg4;clear ho4 hg4)))
    go_roundw
    case rel =>
     refine⟨k+1,by omega,by go_num,?_,(HB.out.trans (B1.out.mono HB.out.size)).grown G4.out.grown (HB.out.trans (B1.out.mono HB.out.size)).size fun j hj=>(HO.out.lt j hj).1⟩;rw[HSU2.out,List.length_append,List.flatten_append,Xbt,HXX.out,←HWN.out];exact O4.out
    case measure=>simp[intOf];omega
   ·have hw:r.wr=false:=by simpa using hw
    rw[hw]at HWR HSU;have HSU2:Hid (wrK (l.take (k+1))=wrK (l.take k)):=Hd (by rw[HSU.out];simp);clear hw HSU;go_wp2_with (first
     | ((with_reducible show wpList _ _ _ (⟨some 11,_,_,_,_,_⟩::_) _ _);go_must(refine Xa3 rfl 101 (.tmp 10) rfl (a.add (k*34)) rc _ Tryz.underlying101 rfl HSR.out HCR.out ?_ ?_;go_simp))
     | ((with_reducible show wpList _ _ _ (⟨none,Op.store 101 _ _,_,_,_,_⟩::_) _ _);go_must(refine Xa1 rfl 101 (.tmp 5) (.tmp 11) rfl rc HSR.out HR1.out (by rw[HRL.out];rfl) ?_ ?_ ?_;go_simp;go_simp;intro w2 hr1 hb1 hz1;have R1:=Hd hr1;have B1:=Hd hb1;clear hr1 hb1 hz1;have d33:=(R1.out.cell 33).trans HWR.out)))
    go_roundw
    case rel=>exact⟨k+1,by omega,by go_num,by rw[HSU2.out,←HWN.out];exact Xal HO.out B1.out,HB.out.trans (B1.out.mono HB.out.size)⟩
    case measure=>simp[intOf];omega
  ·obtain rfl:k=n:=by omega
   have HO2:Hid (wr.ownsRow w.heap.size 78 32 u3 (wrK l).length (bv (wrK l).flatten)):=Hd (by
    have:=HO.out;rwa [List.take_of_length_le (by rw[HLN.out];exact Lr _)]at this)
   have HN2:Hid ((wrK l).length=(wrK l).length):=Hd rfl;clear HO;obtain⟨A2,c2,he⟩:=Xao HO2.out;subst he;have HCL:=Hd (clipK A2 (wrK l).length c2 wr (Xhc HO2.out).1 (by have:=(Xhc HO2.out).2;unfold maxLen;omega));go_wp2_with fail;refine HCL.out.mono ?_;rintro e w9 ⟨rfl,rfl⟩;go_wp2_with fail;go_ret;exact⟨HB.out,A2,c2,rfl,HO2.out⟩
theorem Xg9(n:Int):1≤(short n).length:=by
 unfold short;repeat' split
 all_goals simp
theorem Xu1(i:LIn):3+(i.acc.length+i.dat.length)≤(encIn i).length:=by
 have h1:=Xg9 i.acc.length;have h2:=Xg9 i.dat.length;simp only[encIn,encL,List.length_cons,List.length_append];omega
theorem Xod(l:LLook):2+(l.wr.length+l.rd.length)≤(encLook l).length:=by
 have h1:=Xg9 l.wr.length;have h2:=Xg9 l.rd.length;simp only[encLook,encL,List.length_append];omega
theorem Xvn:∀(l:List LIn),3*l.length+inSize l≤(l.flatMap encIn).length
 | []=>by simp[inSize]
 | i::r=>by
  have h1:=Xvn r;have h2:=Xu1 i;simp only[List.flatMap_cons,List.length_append,List.length_cons,inSize,List.map_cons,List.sum_cons]at h1 ⊢;omega
theorem Xnp:∀(l:List LLook),2*l.length+lookSize l≤(l.flatMap encLook).length
 | []=>by simp[lookSize]
 | i::r=>by
  have h1:=Xnp r;have h2:=Xod i;simp only[List.flatMap_cons,List.length_append,List.length_cons,lookSize,List.map_cons,List.sum_cons]at h1 ⊢;omega
theorem Xru{m:LMsg}(hf:Fits m)(hw:m.Wf):total m+3*m.ins.length+31*m.keys.length≤(enc m).length+m.ins.length:=by
 have h1:=Xvn m.ins;have h2:=Xnp m.looks;have h3:=Xdh m.keys (fun k hk=>(hw.keys k hk).1);have h4:m.looks.length+lookSize m.looks≤(encTail m).length:=by
  unfold encTail;rcases hf.1 with h | ⟨h,_⟩
  ·rw[if_pos h,List.length_append];omega
  ·rw[h];simp[lookSize]
 unfold total enc;simp only[List.length_append];omega
structure Got11(zs:List Int)(x:LTx):Prop where
 is:zs=encTx x
 len:zs.length≤1232
 fits:TFits x
 wf:x.Wf
 total:total x.m≤1232
 sigs:x.sigs.length≤1232
theorem got11{zs:List Int}(hz:AllBytes zs){x:LTx}(h:wTx zs=.ok x):Got11 zs x:=by
 unfold wTx at h;split at h
 ·cases h
 rename_i hl
 split at h
 ·cases h
 rename_i y r e
 split at h
 ·rename_i hr
  obtain rfl:=Except.ok.inj h;obtain⟨h1,h2,h3⟩:=Xw5 hz e;have hr0:r=[]:=List.length_eq_zero_iff.1 hr;rw[hr0,List.append_nil]at h1;have hle:(encTx y).length≤1232:=by rw[←h1];omega
  have h4:=Xru h2.2 h3.m;have h5:y.sigs.flatten.length=y.sigs.length*64:=Xde _ (fun s hs=>(h3.sigs s hs).1);unfold encTx at hle;rw[List.length_append,List.length_append]at hle;exact⟨h1,by omega,h2,h3,by omega,by omega⟩
 ·cases h
theorem Got11.small{zs:List Int}{x:LTx}(h:Got11 zs x):Small x.m:=Small.of (by have:=h.total;omega)
def wErr(zs:List Int):Int:=match wTx zs with
 | .ok x=>chk x
 | .error c=>c
def wireX(zs:List Int):LTx:=if wErr zs=0 then wx zs else zTx
theorem Xeo{zs:List Int}{x:LTx}(h:wTx zs=.ok x):wErr zs=chk x:=by unfold wErr;rw[h]
theorem Xk9{zs:List Int}{c:Int}(h:wTx zs=.error c):wErr zs=c:=by unfold wErr;rw[h]
theorem Xke{zs:List Int}(hz:AllBytes zs){c:Int}(h:wTx zs=.error c):c≠0:=by
 unfold wTx at h;split at h
 ·cases h;decide
 split at h
 ·rename_i e
  cases h
  rcases Xls hz e with rfl | rfl <;> decide
 ·split at h
  ·cases h
  ·cases h;decide
theorem Xrh{zs:List Int}(hz:AllBytes zs)(h:wErr zs=0):∃x,wTx zs=.ok x∧chk x=0∧wireX zs=x:=by
 cases e:wTx zs with
 | error c=>rw[Xk9 e]at h;exact absurd h (Xke hz e)
 | ok x=>exact⟨x,rfl,by rw[←Xeo e];exact h,by unfold wireX wx;rw[if_pos h,e]⟩
def rdErr(ts:List LTab)(zs:List Int):Int:=
 if wErr zs≠0 then wErr zs
 else if resErr ts (wireX zs).m.looks≠0 then resErr ts (wireX zs).m.looks
 else if ((wireX zs).m.keys++(resW ts (wireX zs).m.looks++resR ts (wireX zs).m.looks)).Nodup then 0 else 9
def rdRoles(ts:List LTab)(zs:List Int):List LRole:=rolesL (wireX zs).m (resW ts (wireX zs).m.looks) (resR ts (wireX zs).m.looks)
theorem Xf1{ts:List LTab}{zs:List Int}(h:wErr zs≠0):rdErr ts zs=wErr zs:=by unfold rdErr;rw[if_pos h]
theorem Xjh{ts:List LTab}{zs:List Int}(h:rdErr ts zs=0):wErr zs=0∧resErr ts (wireX zs).m.looks=0∧((wireX zs).m.keys++(resW ts (wireX zs).m.looks++resR ts (wireX zs).m.looks)).Nodup:=by
 by_cases h1:wErr zs=0
 ·unfold rdErr at h;rw[if_neg (by simp[h1])]at h;by_cases h2:resErr ts (wireX zs).m.looks=0
  ·rw[if_neg (by simp[h2])]at h;split at h
   ·exact⟨h1,h2,‹_›⟩
   ·cases h
  ·rw[if_pos h2]at h;exact absurd h h2
 ·rw[Xf1 h1]at h;exact absurd h h1
theorem Xs8{ts:List LTab}:∀{ls:List LLook},resErr ts ls=0→(ls.flatMap (wrL ts)).length+(ls.flatMap (rdL ts)).length=lookSize ls
 | [],_=>rfl
 | x::r,h=>by
  have h':(if errL ts x=0 then resErr ts r else errL ts x)=0:=h;by_cases e:errL ts x=0
  ·rw[if_pos e]at h';have:=Xs8 h';have hx:(wrL ts x).length=x.wr.length∧(rdL ts x).length=x.rd.length:=by
    exact⟨by unfold wrL pickK;rw[List.length_map],by unfold rdL pickK;rw[List.length_map]⟩
   simp only[List.flatMap_cons,List.length_append,lookSize,List.map_cons,List.sum_cons]at this ⊢;omega
  ·rw[if_neg e]at h';exact absurd h' e
theorem Xi8{ts:List LTab}{zs:List Int}(h:rdErr ts zs=0):(rdRoles ts zs).length=tot (wireX zs).m:=by
 obtain⟨_,h2,_⟩:=Xjh h;have:=Xs8 h2;unfold rdRoles tot;rw[Xgh,resW,resR,if_pos h2,if_pos h2];omega
theorem Xkx(l:List LRole):(wrK l).length≤l.length:=by
 unfold wrK;rw[List.length_map];exact List.length_filter_le _ _
theorem Xgs{ts:List LTab}{zs:List Int}(hz:AllBytes zs)(h:rdErr ts zs=0):(rdRoles ts zs).length≤64:=by
 obtain⟨h1,_⟩:=Xjh h;obtain⟨x,_,h3,h4⟩:=Xrh hz h1;rw[Xi8 h,h4];exact(Xvc h3).t
def laidT(ts:List LTab):List LTab→List LTab
 | []=>ts
 | t::r=>laidT (putT ts t.key t.keys) r
theorem Xko(ts:List LTab):∀(a b:List LTab),laidT ts (a++b)=laidT (laidT ts a) b:=by
 intro a;induction a generalizing ts with
 | nil=>intro b;rfl
 | cons t r ih=>intro b;exact ih _ b
def WireDone(w:World)(zs:List Int)(e:Ending)(w':World):Prop:=
 (∃x s lo,wTx zs=.ok x∧chk x=0∧e=.returned (.tuple #[.agg (TRaw.cells s x).toArray,.int .i64 0])∧w.heap.size≤lo∧TxV w' lo w'.heap.size s x∧Below w.heap.size w w') ∨
 (wErr zs≠0∧e=.returned (.tuple #[.agg tzero.toArray,.int .i64 (wErr zs)])∧Below w.heap.size w w')
theorem WireDone.one{w w':World}{zs:List Int}{e:Ending}(h:WireDone w zs e w') :
 ∃cs lo,e=.returned (.tuple #[.agg cs.toArray,.int .i64 (wErr zs)])∧w.heap.size≤lo∧TxGot w' lo w'.heap.size (wireX zs) cs∧Below w.heap.size w w':=by
 rcases h with⟨x,s,lo,hp,hk,he,hlo,hv,hb⟩ | ⟨hn,he,hb⟩
 ·have h0:wErr zs=0:=by rw[Xeo hp];exact hk
  have hx:wireX zs=x:=by unfold wireX wx;rw[if_pos h0,hp]
  exact⟨TRaw.cells s x,lo,by rw[h0];exact he,hlo,by rw[hx];exact hv.got,hb⟩
 ·have hx:wireX zs=zTx:=by unfold wireX;rw[if_neg hn]
  exact⟨tzero,w.heap.size,he,Lr _,by rw[hx];exact Xuw _ _ _ hb.size,hb⟩
theorem Xc6{P:Program}{fn:Func}{p0 p1:Tmp}{t0 t1:TypeId}(h:fn.results=#[.cell p0 t0,.cell p1 t1])(tmps:Array Value)(w:World)(a0 a1:Addr)(v0 v1:Value)
 (h0:tmps.getD p0 undef=.pointer (some a0)) (h1:tmps.getD p1 undef=.pointer (some a1))
 (l0:(loadVar t0 a0).run P w=.ok v0 w) (l1:(loadVar t1 a1).run P w=.ok v1 w) :
 (results fn tmps).run P w=.ok (.tuple #[v0,v1]) w:=by
 have h0':tmps[p0]?.getD undef=.pointer (some a0):=by simpa using h0
 have h1':tmps[p1]?.getD undef=.pointer (some a1):=by simpa using h1
 simp[results,h,h0',h1',asAddr,l0,l1]
theorem wire_(A:Option Addr)(n c B:Nat)(zs:List Int)(w:World)(hs:Sees w B A n (bv zs))(hB:B≤w.heap.size)(hnc:n≤c)(hc:c≤maxLen)(hz:AllBytes zs) :
 Calls Tryz.prog 14 #[.slice A n c] w (WireDone w zs):=by
 have hmf:∀(fn:Fn) (first cap:Array Value) (w:World),(Instr.makeFunc fn first cap).run Tryz.prog w=.ok (.func fn first cap) w:=fun _ _ _ _=>rfl
 obtain⟨W,HX,hb0,hr0,hr1,hr2,hz0⟩:∃W,Hid (∀z,z=tzero.toArray→((w.alloc (.cells z 42)).alloc (.cells #[.int .i64 0] 49)).alloc (.cells #[.int .i64 0] 49)=W)∧Below w.heap.size w W∧Row W w.heap.size 42 tzero ∧
  Row W (w.heap.size+1) 49 [.int .i64 0]∧Row W (w.heap.size+2) 49 [.int .i64 0]∧W.heap.size=w.heap.size+3:=by
  refine⟨_,Hd fun z h=>by rw[h],(((Br w.heap.size w).alloc (Lr _) _).alloc (by simp) _).alloc (by simp;omega) _,((Row.new w 42 tzero).alloc _).alloc _,(Row.new' (w.alloc (.cells tzero.toArray 42)) 49 [.int .i64 0] (by simp)).alloc _,Row.new' _ 49 [.int .i64 0] (by simp),by simp⟩
 have HW:=Hd (whole_ A n c B zs W (hs.below (hb0.mono hB)) (Lq hB hb0.size) hnc hc hz);have HZ:=Hd hz;have B0:=Hd hb0;have R0:=Hd hr0;have R1:=Hd hr1;have R2:=Hd hr2;have Z0:=Hd hz0;clear hs hB hnc hc hz hb0 hr0 hr1 hr2 hz0;go_enter_defers Tryz.func14,Tryz.ntmps14
 go_upto_region 3 with fail
 rw[HX.out];rotate_left
 ·kernel_rfl
 clear HX;go_wp2_with fail;refine HW.out.mono ?_;clear HW;rintro e w1 (⟨x,s,lo,hp,rfl,hlo,hv,hb⟩ | ⟨q,hp,rfl,hb⟩)
 ·have hg:=got11 HZ.out hp;have S0:=Hd (R0.out.below hb R0.out.lt);have S1:=Hd (R1.out.below hb R1.out.lt);have S2:=Hd (R2.out.below hb R2.out.lt);have B1:=Hd (B0.out.trans (hb.mono B0.out.size));have Z1:=Hd hb.size;have HSZ:=Hd (show(Tryz.prog.info? 42).map (·.size)=some (TRaw.cells s x).length by rw[Xba,Xac hv.in_.m.recent]);have HTL:=Hd (show(TRaw.cells s x).length=40 from Xac hv.in_.m.recent);have HCO:=Hd (Xbm (s:=s) (x:=x));have HV:=Hd hv;have HLO:=Hd hlo;have HP:=Hd hp;have HG:=Hd hg;have HF:=Hd (fun w=>Xcx 0 w);rw[show decide ((0:Int)≠0)=false from rfl]at HF;have HCK:=Hd (fun(V:World) (h:TxIn V w1.heap.size s x) (hz:w1.heap.size≤V.heap.size)=>check_ s x w1.heap.size V h hz hg.small hg.wf.m);have HEND:=Hd (fun(V:World) u r0 r1 r2=>Xqn w.heap.size (TRaw.cells s x) (chk x) 0 u V HTL.out HCO.out r0 r1 r2);have HCS:∃cs,cs=TRaw.cells s x:=⟨_,rfl⟩;obtain⟨cs,hcs⟩:=HCS;have CS:=Hd hcs;rw[←hcs]at HSZ HTL HCO HCK HEND ⊢;clear hcs hv hlo hp hg hb R0 R1 R2 B0;have HCK2:=HCK;go_upto_region 4 with((with_reducible show wpList _ _ _ (⟨none,Op.store 42 _ _,_,_,_,_⟩::_) _ _);go_must(refine Xa4 rfl 42 (.tmp 2) (.tmp 9) rfl w.heap.size tzero cs S0.out HSZ.out (by rw[HTL.out];rfl) HCO.out ?_ ?_ ?_;go_simp;go_simp;intro w3 hr3 ht3;have R3:=Hd hr3;have T3:=Hd ht3;have c2:w3.cell? ⟨w.heap.size+1+1,0,none⟩=some (.int .i64 0):=(ht3.row S2.out (by omega)).cell 0;have f2:=(ht3.row S2.out (by omega)).frozen 0;clear hr3 ht3))
  have ht4:=Xa2 w3 ⟨w.heap.size+1+1,0,none⟩ (.int .i64 0);have r4:=ht4.row R3.out (show w.heap.size≠w.heap.size+1+1 by omega);have r14:=ht4.row (T3.out.row S1.out (by omega)) (show w.heap.size+1≠w.heap.size+1+1 by omega);have r24:Row _ (w.heap.size+2) 49 [.int .i64 0]:=(T3.out.row S2.out (by omega)).set_ 0 (.int .i64 0);have r24':Row (w3.setCell ⟨w.heap.size+1+1,0,none⟩ (.int .i64 0)) (w.heap.size+2) 49 [.int .i64 0]:=r24;clear c2 f2 r24;generalize w3.setCell ⟨w.heap.size+1+1,0,none⟩ (.int .i64 0)=w4 at *;have T4:=Hd ht4;have R4:=Hd r4;have R14:=Hd r14;have R24:=Hd r24';have c2:w4.cell? ⟨w.heap.size+1+1,0,none⟩=some (.int .i64 0):=r24'.cell 0;clear ht4 r4 r14 r24';have hV4:TxV w4 lo w1.heap.size s x:=HV.out.stay (by rw[T4.out.size,T3.out.size];exact Lr _) fun k a b=>(T4.out.block k (show k≠w.heap.size+1+1 by have:=HLO.out;have:=Z0.out;omega)).trans (T3.out.block k (by have:=HLO.out;have:=Z0.out;omega))
  have HC4:=Hd (HCK.out w4 hV4.in_ (by rw[T4.out.size,T3.out.size];exact Lr _));have V4:=Hd hV4;have Z4:=Hd (show w4.heap.size=w1.heap.size by rw[T4.out.size,T3.out.size]);clear hV4 HCK HCK2;go_wp2_with (first
   | (go_at_call 40;refine(HF.out _).mono ?_;rintro e w' ⟨rfl,hw⟩;obtain rfl:=hw.symm)
   | ((with_reducible show wpList _ _ _ (⟨some 13,_,_,_,_,_⟩::_) _ _);go_must(refine Xa0 rfl 42 (.tmp 2) rfl w.heap.size 42 cs _ Tryz.underlying42 rfl HSZ.out R4.out ?_ ?_;go_simp)))
  refine HC4.out.mono ?_;rintro e w5 ⟨rfl,hb5⟩;have R5:=Hd (R4.out.below hb5 R4.out.lt);have R15:=Hd (R14.out.below hb5 R14.out.lt);have R25:=Hd (R24.out.below hb5 R24.out.lt);have V5:=Hd (V4.out.stay hb5.size fun k a b=>hb5.block k (by rw[Z4.out];exact b));have B5:=Hd (((B1.out.trans (T3.out.below (Lr _))).trans (T4.out.below (show w.heap.size≤w.heap.size+1+1 by omega))).trans (hb5.mono (Nat.le_of_lt R4.out.lt)));have Z5:=Hd (show w1.heap.size≤w5.heap.size by have:=Z4.out;have:=hb5.size;omega);clear c2 HC4 hb5;have c2:w5.cell? ⟨w.heap.size+1+1,0,none⟩=some (.int .i64 0):=R25.out.cell 0;have f2:=R25.out.frozen 0;have f2:w5.frozen? ⟨w.heap.size+1+1,0,none⟩=false:=f2;go_wp2_with fail;refine leaves_cons (f:=51) (args:=#[.pointer (some ⟨w.heap.size,0,none⟩),.pointer (some ⟨w.heap.size+1+1,0,none⟩),.pointer (some ⟨w.heap.size+1,0,none⟩)]) (by simp) (by simp[go_sem]) ?_;have ht6:=Xa2 w5 ⟨w.heap.size+1+1,0,none⟩ (.int .i64 (chk x));refine(HEND.out _ _ (ht6.row R5.out (show w.heap.size≠w.heap.size+1+1 by omega)) (ht6.row R15.out (show w.heap.size+1≠w.heap.size+1+1 by omega)) (R25.out.set_ 0 (.int .i64 (chk x)))).mono ?_;rintro e u' w7 ⟨rfl,⟨rfl,h0,h1,hb7⟩,hs7,hk7⟩;have hV7:TxV w7 lo w1.heap.size s x:=V5.out.stay (Lq (by rw[ht6.size];exact Lr _) hs7) fun k a b=>by
   have:=HLO.out;have:=Z0.out;have:=Z5.out;exact(hk7 k (by rw[ht6.size];omega) (by omega) (by omega)).trans (ht6.block k (show k≠w.heap.size+1+1 by omega))
  have hb8:=(B5.out.trans (ht6.below (show w.heap.size≤w.heap.size+1+1 by omega))).trans hb7;have hz8:w1.heap.size≤w7.heap.size:=Lq Z5.out (Lq (by rw[ht6.size];exact Lr _) hs7);by_cases hk:chk x=0
  ·rw[if_pos hk]at h0;refine⟨_,Xc6 (h:=rfl) _ w7 ⟨w.heap.size,0,none⟩ ⟨w.heap.size+1,0,none⟩ _ _ (by rfl) (by rfl) (run_loadVar_row w7 w.heap.size 42 42 cs.toArray (0,0) _ h0.is Tryz.underlying42 rfl (by rw[List.size_toArray];exact HSZ.out)) (Xas w7 _ 49 _ _ Tryz.underlying49 rfl (h1.cell 0)),?_⟩;exact .inl ⟨x,s,lo,HP.out,hk,by rw[hk,CS.out],by have:=Z0.out;have:=HLO.out;omega,hV7.more hz8,hb8⟩
  ·rw[if_neg hk]at h0;refine⟨_,Xc6 (h:=rfl) _ w7 ⟨w.heap.size,0,none⟩ ⟨w.heap.size+1,0,none⟩ _ _ (by rfl) (by rfl) (run_loadVar_row w7 w.heap.size 42 42 tzero.toArray (0,0) _ h0.is Tryz.underlying42 rfl (by rw[List.size_toArray];exact Xan)) (Xas w7 _ 49 _ _ Tryz.underlying49 rfl (h1.cell 0)),?_⟩;exact .inr ⟨by rw[Xeo HP.out];exact hk,by rw[Xeo HP.out],hb8⟩
 ·have hq:=Xke HZ.out hp;have S0:=Hd (R0.out.below hb R0.out.lt);have S1:=Hd (R1.out.below hb R1.out.lt);have S2:=Hd (R2.out.below hb R2.out.lt);have B1:=Hd (B0.out.trans (hb.mono B0.out.size));have HQ:=Hd hq;have HP:=Hd hp;have HF:=Hd (fun w=>Xcx q w);rw[decide_eq_true hq]at HF;clear hq hp hb R0 R1 R2 B0;go_upto_region 4 with((with_reducible show wpList _ _ _ (⟨none,Op.store 42 _ _,_,_,_,_⟩::_) _ _);go_must(refine Xa4 rfl 42 (.tmp 2) (.tmp 9) rfl w.heap.size tzero tzero S0.out Xan rfl Xap ?_ ?_ ?_;go_simp;(go_simp;try kernel_rfl);intro w3 hr3 ht3;have R3:=Hd hr3;have T3:=Hd ht3;have c2:w3.cell? ⟨w.heap.size+1+1,0,none⟩=some (.int .i64 0):=(ht3.row S2.out (by omega)).cell 0;have f2:=(ht3.row S2.out (by omega)).frozen 0;clear hr3 ht3))
  have ht4:=Xa2 w3 ⟨w.heap.size+1+1,0,none⟩ (.int .i64 q);have r4:=ht4.row R3.out (show w.heap.size≠w.heap.size+1+1 by omega);have r14:=ht4.row (T3.out.row S1.out (by omega)) (show w.heap.size+1≠w.heap.size+1+1 by omega);have r24:Row (w3.setCell ⟨w.heap.size+1+1,0,none⟩ (.int .i64 q)) (w.heap.size+2) 49 [.int .i64 q]:=(T3.out.row S2.out (by omega)).set_ 0 (.int .i64 q);clear c2 f2;generalize w3.setCell ⟨w.heap.size+1+1,0,none⟩ (.int .i64 q)=w4 at *;have T4:=Hd ht4;have R4:=Hd r4;have R14:=Hd r14;have R24:=Hd r24;have c2:w4.cell? ⟨w.heap.size+1+1,0,none⟩=some (.int .i64 q):=r24.cell 0;clear ht4 r4 r14 r24;go_wp2_with (go_at_call 40;refine(HF.out _).mono ?_;rintro e w' ⟨rfl,hw⟩;obtain rfl:=hw.symm)
  refine leaves_cons (f:=51) (args:=#[.pointer (some ⟨w.heap.size,0,none⟩),.pointer (some ⟨w.heap.size+1+1,0,none⟩),.pointer (some ⟨w.heap.size+1,0,none⟩)]) (by simp) (by simp[go_sem]) ?_;refine(Xqn w.heap.size tzero q 0 .returning w4 Xdf Xap R4.out R14.out R24.out).mono ?_;rintro e u' w7 ⟨rfl,⟨rfl,h0,h1,hb7⟩,hs7,hk7⟩;rw[if_neg HQ.out]at h0;have hb8:=((B1.out.trans (T3.out.below (Lr _))).trans (T4.out.below (show w.heap.size≤w.heap.size+1+1 by omega))).trans hb7;refine⟨_,Xc6 (h:=rfl) _ w7 ⟨w.heap.size,0,none⟩ ⟨w.heap.size+1,0,none⟩ _ _ (by rfl) (by rfl) (run_loadVar_row w7 w.heap.size 42 42 tzero.toArray (0,0) _ h0.is Tryz.underlying42 rfl (by rw[List.size_toArray];exact Xan)) (Xas w7 _ 49 _ _ Tryz.underlying49 rfl (h1.cell 0)),?_⟩;exact .inr ⟨by rw[Xk9 HP.out];exact HQ.out,by rw[Xk9 HP.out],hb8⟩
def TsB11(ts:List LTab):Prop:=∀t ∈ ts,∀k ∈ t.keys,KeyOk k
theorem TsB11.put{ts:List LTab}(h:TsB11 ts){k:List Int}{l:List (List Int)}(hl:∀y ∈ l,KeyOk y):TsB11 (putT ts k l):=by
 unfold putT;split
 ·intro t ht;rcases List.mem_append.1 ht with ht | ht
  ·exact h t ht
  ·obtain rfl:=List.mem_singleton.1 ht;exact hl
 ·exact h
theorem Xnq:∀(l:List LTab) {ts:List LTab},TsB11 ts→(∀t ∈ l,∀k ∈ t.keys,KeyOk k)→TsB11 (laidT ts l)
 | [],_,h,_=>h
 | t::r,_,h,hl=>Xnq r (h.put (hl t (by simp))) fun u hu=>hl u (List.mem_cons_of_mem _ hu)
theorem Xnm{l:List (List Int)}{ix:List Int}(h:∀y ∈ l,KeyOk y)(hi:ix.any (out6 l.length)=false)(hb:AllBytes ix):∀y ∈ pickK l ix,KeyOk y:=by
 intro y hy;obtain⟨i,hi',rfl⟩:=List.mem_map.1 hy;have h1:out6 l.length i=false:=by
  cases e:out6 l.length i with
  | false=>rfl
  | true=>rw[List.any_eq_true.2 ⟨i,hi',e⟩]at hi;cases hi
 have h2:¬((l.length:Int)≤i):=by simpa [out6]using h1
 have h3:=(hb i hi').1;have h4:i.toNat<l.length:=by omega
 rw[List.getD_eq_getElem?_getD,List.getElem?_eq_getElem h4];exact h _ (List.getElem_mem h4)
theorem Xvx{ts:List LTab}(hg:TsB11 ts):∀(ls:List LLook),(∀x ∈ ls,LkOk x)→resErr ts ls=0→(∀y ∈ ls.flatMap (wrL ts),KeyOk y)∧∀y ∈ ls.flatMap (rdL ts),KeyOk y
 | [],_,_=>⟨fun y hy=>(by cases hy),fun y hy=>(by cases hy)⟩
 | x::r,hok,h0=>by
  obtain⟨h1,h2⟩:errL ts x=0∧resErr ts r=0:=by
   unfold resErr at h0;split at h0
   ·exact⟨‹_›,h0⟩
   ·exact absurd h0 ‹_›
  obtain⟨a,b⟩:=Xvx hg r (fun y hy=>hok y (List.mem_cons_of_mem _ hy)) h2;obtain⟨k0,k1,k2⟩:=hok x (by simp);unfold errL at h1;cases hf:findT ts x.tab with
  | none=>rw[hf]at h1;simp at h1
  | some l =>
   rw[hf]at h1;obtain⟨t,ht,ht1,ht2⟩:=Xlj hf;have h32:∀y ∈ l,KeyOk y:=by rw[←ht2];exact hg t ht
   have hx:x.wr.any (out6 l.length)=false∧x.rd.any (out6 l.length)=false:=by
    simp only[]at h1;split at h1
    ·cases h1
    ·rename_i hn
     simpa using hn
   have e:fKeys ts x.tab=l:=by unfold fKeys;rw[hf];rfl
   rw[List.flatMap_cons,List.flatMap_cons];unfold wrL rdL;rw[e];refine⟨fun y hy=>?_,fun y hy=>?_⟩
   ·rcases List.mem_append.1 hy with hy | hy
    ·exact Xnm h32 hx.1 k1 y hy
    ·exact a y hy
   ·rcases List.mem_append.1 hy with hy | hy
    ·exact Xnm h32 hx.2 k2 y hy
    ·exact b y hy
theorem Xh0{ts:List LTab}(hg:TsB11 ts){ls:List LLook}(hl:∀x ∈ ls,LkOk x):(∀y ∈ resW ts ls,KeyOk y)∧∀y ∈ resR ts ls,KeyOk y:=by
 by_cases h:resErr ts ls=0
 ·rw[resW,resR,if_pos h,if_pos h];exact Xvx hg ls hl h
 ·rw[resW,resR,if_neg h,if_neg h];exact⟨fun y hy=>(by cases hy),fun y hy=>(by cases hy)⟩
theorem Xkl(ts:List LTab)(ls:List LLook):(resW ts ls).length≤lookSize ls∧(resR ts ls).length≤lookSize ls:=by
 by_cases h:resErr ts ls=0
 ·rw[resW,resR,if_pos h,if_pos h];exact Xmp ts ls
 ·rw[resW,resR,if_neg h,if_neg h];exact⟨Nat.zero_le _,Nat.zero_le _⟩
def castErr(ts:List LTab)(m:LMsg):Int:=if resErr ts m.looks≠0 then resErr ts m.looks else if (m.keys++(resW ts m.looks++resR ts m.looks)).Nodup then 0 else 9
def castRoles(ts:List LTab)(m:LMsg):List LRole:=rolesL m (resW ts m.looks) (resR ts m.looks)
theorem Xjg{ts:List LTab}{zs:List Int}(h:wErr zs=0):rdErr ts zs=castErr ts (wireX zs).m:=by
 unfold rdErr castErr;rw[if_neg (by simp[h])]
theorem Xgu{ts:List LTab}{m:LMsg}(hg:TsB11 ts)(hw:m.Wf):∀r ∈ castRoles ts m,RoleOk r:=
 Xsm hw.keys (Xh0 hg hw.looks).1 (Xh0 hg hw.looks).2
def CastDone(w:World)(ts:List LTab)(m:LMsg)(e:Ending)(w':World):Prop:=
 Below w.heap.size w w'∧if castErr ts m=0 then ∃A c,e=.returned (.tuple #[.slice A (castRoles ts m).length (castRoles ts m).length,.int .i64 0])∧w'.ownsRow w.heap.size 101 34 (.slice A (castRoles ts m).length c) (castRoles ts m).length (cellsR (castRoles ts m))
  else e=.returned (.tuple #[.slice none 0 0,.int .i64 (castErr ts m)])
theorem Xou(rb mb hi n:Nat)(ts:List LTab)(w:World)(h:Reg w rb mb hi n ts) :
 Calls Tryz.prog 39 #[.pointer (some ⟨rb,0,none⟩)] w fun e w'=>e=.returned (.int .i64 0)∧Below w.heap.size w w':=by
 have HR:=Hd (Xj9 rb mb hi n ts none 0 0 0 [] w h ⟨rfl,fun i x hx=>by simp at hx⟩ (Nat.zero_le _) (fun x hx=>by cases hx) (by omega) (by simp[lookSize]));clear h;go_enter Tryz.func39,Tryz.ntmps39
 go_wp2_with fail;refine HR.out.mono ?_;rintro e w1 ⟨S,T,rfl,_,_,_,hb⟩;have HB:=Hd hb;clear hb HR;unfold Sl.val;have e0:resErr ts []=0:=rfl;rw[e0];go_wp2;go_ret;exact⟨rfl,HB.out⟩
theorem cast11(q:Raw)(m:LMsg)(rb mb hi n:Nat)(ts:List LTab)(B:Nat)(w:World)(h:Reg w rb mb hi n ts)(hg:TsB11 ts)(hm:MsgIn w B q m)(hB:B≤w.heap.size)(hs:Small m)(hw:m.Wf) :
 Calls Tryz.prog 41 #[.agg (q.cells m).toArray,.pointer (some ⟨rb,0,none⟩)] w (CastDone w ts m):=by
 have rm:=Row.new w 40 (q.cells m);have hb0:Below w.heap.size w (w.alloc (.cells (q.cells m).toArray 40)):=(Br w.heap.size w).alloc (Lr _) _;have hln:=hm.looks.len;have hkn:=hm.keys.len;have hm0:=hm.below (hb0.mono hB);have hlt:=h.lt;have HR:=Hd (Xj9 rb mb hi n ts q.LA q.ln q.lc B m.looks (w.alloc (.cells (q.cells m).toArray 40)) (h.below (hb0.mono hlt.2.2)) hm0.looks (Lq hB hb0.size) hw.looks (by rw[←hln];exact hs.looks) hs.sum);have hc38:(w.alloc (.cells (q.cells m).toArray 40)).cell? ⟨w.heap.size,38,none⟩=some (.slice q.LA q.ln q.lc):=(rm.cell 38).trans (Xdo hm.recent);have HSM:=Hd (show(Tryz.prog.info? 40).map (·.size)=some (q.cells m).length by rw[Xat,Xaq hm.recent]);have HOF:=Hd (fun(V:World) (x y:KL7) (hb:Below w.heap.size w V) (hx:x.In V V.heap.size) (hy:y.In V V.heap.size)=>of7 q m x y V.heap.size V ((hm.below (hb.mono hB)).keys.more (Lq hB hb.size)) hw.keys hm.recent (Lr _) hw.s hw.r hw.o (by rw[←hkn];exact hs.keys) hx hy);have HKO:=Hd (Xh0 hg hw.looks);have HKL:=Hd (Xkl ts m.looks);have HSU:=Hd hs.sum;have HC:Hid (castErr ts m=if resErr ts m.looks≠0 then resErr ts m.looks else if (m.keys++(resW ts m.looks++resR ts m.looks)).Nodup then 0 else 9):=Hd rfl;have RM:=Hd rm;have B0:=Hd hb0;obtain⟨MC,hMC⟩:∃MC,MC=q.cells m:=⟨_,rfl⟩;rw[←hMC]at HR HSM HOF RM B0 hc38 ⊢;generalize hWW:w.alloc (.cells MC.toArray 40)=W at *;have HWW:=Hd hWW;have HF:=Hd (fun w=>Xcx (resErr ts m.looks) w);clear hWW hMC rm hb0 hln hkn hm0 hlt h hg hm hs hw;by_cases h0:resErr ts m.looks=0
 ·rw[decide_eq_false (by simpa using h0)]at HF;go_enter Tryz.func41,Tryz.ntmps41
  go_upto_region 1 with fail
  rw[HWW.out];clear HWW;go_wp2_with fail;refine HR.out.mono ?_;rintro e w1 ⟨S,T,rfl,hS,hT,hcp,hb1⟩;have HS:=Hd hS;have HT:=Hd hT;have B1:=Hd hb1;have R1:=Hd (RM.out.below hb1 RM.out.lt);have KS:Hid (KL7.In w1 w1.heap.size ⟨S.A.map fun g=>⟨g,0,none⟩,S.n,S.c,resW ts m.looks⟩):=Hd ⟨hS.keys,HKO.out.1,by have:=hS.keys.len;have:=HKL.out.1;have:=HSU.out;show S.n≤4000;omega⟩;have KT:Hid (KL7.In w1 w1.heap.size ⟨T.A.map fun g=>⟨g,0,none⟩,T.n,T.c,resR ts m.looks⟩):=Hd ⟨hT.keys,HKO.out.2,by have:=hT.keys.len;have:=HKL.out.2;have:=HSU.out;show T.n≤4000;omega⟩;have BW:=Hd (B0.out.trans (hb1.mono B0.out.size));have HO:=Hd (HOF.out w1 _ _ BW.out KS.out KT.out);clear hS hT hcp hb1 hc38 HR HOF;unfold KL7.val at HO;unfold Sl.val;rw[h0]at HF ⊢;go_wp2_with (first
   | (go_at_call 40;refine(HF.out _).mono ?_;rintro e w' ⟨rfl,hw⟩;obtain rfl:=hw.symm)
   | ((with_reducible show wpList _ _ _ (⟨some 20,_,_,_,_,_⟩::_) _ _);go_must(refine Xa0 rfl 40 (.tmp 2) rfl w.heap.size 40 MC _ Tryz.underlying40 rfl HSM.out R1.out ?_ ?_;go_simp)))
  refine HO.out.mono ?_;rintro e w2 ⟨hb2,hq⟩;have B2:=Hd (BW.out.trans (hb2.mono BW.out.size));have HLE:=Hd BW.out.size;clear hb2 HO;by_cases hnd:(m.keys++(resW ts m.looks++resR ts m.looks)).Nodup
  ·have hc0:castErr ts m=0:=by rw[HC.out,if_neg (by simp[h0]),if_pos hnd]
   rw[if_pos hnd]at hq;obtain⟨A,c,rfl,ho⟩:=hq;have HO:=Hd ho;have C0:=Hd hc0;clear ho hc0 hnd HC;go_wp2;go_ret2
   refine⟨B2.out,?_⟩;rw[if_pos C0.out];exact⟨A,c,rfl,Xij HO.out HLE.out⟩
  ·have hc0:castErr ts m=9:=by rw[HC.out,if_neg (by simp[h0]),if_neg hnd]
   rw[if_neg hnd]at hq;subst hq;have C0:=Hd hc0;clear hc0 hnd HC;go_wp2;go_ret2
   refine⟨B2.out,?_⟩;rw[if_neg (by rw[C0.out];decide),C0.out];rfl
 ·rw[decide_eq_true h0]at HF;have hc0:castErr ts m=resErr ts m.looks:=by rw[HC.out,if_pos h0]
  have C0:=Hd hc0;have H0:=Hd h0;clear hc0 h0;go_enter Tryz.func41,Tryz.ntmps41
  go_upto_region 1 with fail
  rw[HWW.out];clear HWW;go_wp2_with fail;refine HR.out.mono ?_;rintro e w1 ⟨S,T,rfl,hS,hT,hcp,hb1⟩;have BW:=Hd (B0.out.trans (hb1.mono B0.out.size));clear hS hT hcp hb1 hc38 HR HOF;unfold Sl.val;go_wp2_with (go_at_call 40;refine(HF.out _).mono ?_;rintro e w' ⟨rfl,hw⟩;obtain rfl:=hw.symm)
  go_ret2
  refine⟨BW.out,?_⟩;rw[if_neg (by rw[C0.out];exact H0.out),C0.out];rfl
theorem Xtm(A:Option Addr)(n c B:Nat)(zs:List Int)(w:World)(hx:Sees w B A n (bv zs))(hB:B≤w.heap.size)(h1:1≤n)(hn:n≤1232) :
 Calls Tryz.prog 42 #[.slice A n c] w fun e w'=>e=.returned (.slice (some ⟨w.heap.size,0,none⟩) n n)∧Row w' w.heap.size 5 (bv zs)∧Below w.heap.size w w':=by
 obtain⟨a,u,rfl,hab,_,_⟩:=hx.at_ (k:=0) (by omega);have HL:=Hd (show(bv zs).length=n*1 by rw[hx.len,Nat.mul_one]);have H1:=Hd (Xae zs);have HC:Hid (∀j v,(bv zs)[j]?=some v→w.cell? (a.add j)=some v):=Hd fun j v hv=>by
  obtain⟨a',e,_,hc⟩:=hx.cell j v hv;cases e
  exact hc
 clear hx;generalize bv zs=cs at *;go_enter Tryz.func42,Tryz.ntmps42
 go_wp2_with (first
  | (at_make;(obtain⟨i0,hi,hz0,hz1,hz2⟩:=info_parts Xb3);go_must(refine wpList_make_full _ rfl (.tmp 5) (.tmp 5) 22 rfl w.heap.size 5 i0 _ 1 Tryz.underlying22 hi hz0 hz1 .i64 .i64 _ _ n rfl rfl (by simp) (by simp) (by rw[hz2];omega) (by unfold maxLen;omega) (Lr _) ?_;intro w1 hown hgrow;have hrow:=Row.of_ownN hown;have hlen:=Xjp (.int .u8 0) (n*1);have hb1:=(Br w.heap.size w).grown hgrow (Lr _) (fun k hk=>by cases hk);have R1:=Hd hrow;have HL1:=Hd hlen;have B1:=Hd hb1;clear hrow hlen hb1 hown hgrow hi hz0 hz1 hz2))
  | ((with_reducible show wpList _ _ _ (⟨some 9,_,_,_,_,_⟩::_) _ _);go_must(refine Xem rfl (.tmp 7) (.tmp 8) 22 22 5 rfl Tryz.underlying22 1 (by kernel_rfl) w.heap.size n n c a rfl rfl _ 5 R1.out cs HL.out (fun j v hv=>(B1.out.cell (by rw[Xa7];omega)).trans (HC.out j v hv)) (by rw[HL1.out,HL.out]) H1.out ?_;intro w2 hr2 ht2;have R2:=Hd hr2;have T2:=Hd ht2;clear hr2 ht2)))
 go_ret;exact⟨rfl,R2.out,B1.out.trans (T2.out.below (Lr _))⟩
def num:List Int→Nat→Int
 | _,0=>0
 | zs,k+1=>num zs k+zs.getD k 0*256 ^ k
theorem Xfw(zs:List Int)(hb:Bytes zs)(k:Nat):0≤num zs k∧num zs k<256 ^ k:=by
 induction k with
 | zero=>simp[num]
 | succ k ih =>
  have h:=hb k;have e:(256:Int) ^ (k+1)=256 ^ k*256:=Int.pow_succ ..;have hp:(0:Int)<256 ^ k:=Int.pow_pos (by omega);simp only[num];rw[e];have h1:0≤zs.getD k 0*256 ^ k:=Int.mul_nonneg h.1 (by omega);have h2:zs.getD k 0*256 ^ k≤255*256 ^ k:=Int.mul_le_mul_of_nonneg_right (by omega) (by omega);omega
theorem Xqf(zs:List Int)(k:Nat):num zs (k+1)=zs.getD 0 0+256*num (zs.drop 1) k:=by
 induction k with
 | zero=>simp[num]
 | succ k ih =>
  rw[num,ih,num];have:(zs.drop 1).getD k 0=zs.getD (k+1) 0:=by simp[List.getD_eq_getElem?_getD]
  rw[this,Int.pow_succ,Int.mul_add,Int.add_assoc];congr 2
  rw[Int.mul_comm (256 ^ k) 256,←Int.mul_assoc,←Int.mul_assoc,Int.mul_comm 256]
theorem u64_in(x:Int)(h0:0≤x)(h1:x<18446744073709551616):IntKind.u64.wrap x=x:=by rw[IntKind.wrap_u64];omega
theorem Xum(zs:List Int)(hb:Bytes zs)(k:Nat)(hk:k<8) :
 bits .or .u64 (num zs k) (IntKind.u64.wrap (IntKind.u64.wrap (zs.getD k 0)*2 ^ (8*k)))=num zs (k+1):=by
 have h:=hb k;have hn:=Xfw zs hb k;simp only[num];generalize zs.getD k 0=z at *;generalize num zs k=p at *;rw[u64_in z h.1 (by omega)];have key:∀e:Nat,e<64→(256:Int) ^ k=2 ^ e→8*k=e→bits .or .u64 p (IntKind.u64.wrap (z*2 ^ (8*k)))=p+z*256 ^ k:=by
  rintro e he h2 rfl;have hp:(0:Int)<2 ^ (8*k):=Int.pow_pos (by omega);have hz0:0≤z*2 ^ (8*k):=Int.mul_nonneg h.1 (by omega);have hz1:z*2 ^ (8*k)<18446744073709551616:=by
   have h3:z*2 ^ (8*k)≤255*2 ^ (8*k):=Int.mul_le_mul_of_nonneg_right (by omega) (by omega);have h4:(2:Int) ^ (8*k)≤2 ^ 56:=by exact_mod_cast Nat.pow_le_pow_right (by omega) (by omega)
   omega
  have hp1:p<18446744073709551616:=by
   have h4:(2:Int) ^ (8*k)≤2 ^ 56:=by exact_mod_cast Nat.pow_le_pow_right (by omega) (by omega)
   omega
  rw[u64_in _ hz0 hz1,Xpx (8*k) p _ hn.1 (by omega) hz0 (Int.mul_emod_left ..) hp1 hz1,h2]
 refine key (8*k) (by omega) ?_ rfl;rw[Int.pow_mul];rfl
def getN(zs:List Int)(many:Int):Int × Int:=
 if many<1∨8<many then(0,1)else if (zs.length:Int)<many then(0,5)else(num zs many.toNat,0)
theorem Xu3(m:Int)(w:World)(h0:1≤m)(h1:m≤8):Calls Tryz.prog 145 #[.int .i64 m] w fun e w'=>e=.returned (.bool true)∧w=w':=by
 go_enter Tryz.func145,Tryz.ntmps145
 go_wp2;go_ret;exact⟨rfl,rfl⟩
theorem Xwj(m:Int)(w:World)(h:m<1∨8<m):Calls Tryz.prog 145 #[.int .i64 m] w fun e w'=>e=.returned (.bool false)∧w=w':=by
 rcases h with h | h
 ·go_enter Tryz.func145,Tryz.ntmps145
  go_wp2;go_ret;exact⟨rfl,rfl⟩
 ·have h2:1≤m:=by omega
  have h3:decide (m≤8)=false:=by simp;omega
  go_enter Tryz.func145,Tryz.ntmps145
  go_wp2;go_ret;exact⟨rfl,rfl⟩
theorem Xjs(A:Option Addr)(n c:Nat)(zs:List Int)(m:Int)(w:World)(S:Nat)
 (hx:Sees w S A n (bv zs)) (hn:n≤maxLen) (hb:Bytes zs) :
 Calls Tryz.prog 120 #[.slice A n c,.int .i64 m] w fun e w'=>e=.returned (.tuple #[.int .u64 (getN zs m).1,.int .i64 (getN zs m).2])∧w=w':=by
 unfold maxLen at hn;have lx:=Hd (show zs.length=n by have:=hx.len;rwa [bL]at this);by_cases hm:m<1∨8<m
 ·have hg:getN zs m=(0,1):=by simp[getN,hm]
  have HG:=Hd hg;have HM:=Hd (Xwj m w hm);clear hg hm;go_enter Tryz.func120,Tryz.ntmps120
  go_wp2_with fail;refine HM.out.mono ?_;rintro e w1 ⟨rfl,rfl⟩;go_wp2;go_ret2
  exact⟨Xcu HG.out,rfl⟩
 ·have HF:=Hd (Xu3 m w (by omega) (by omega));by_cases hl:(n:Int)<m
  ·have hg:getN zs m=(0,5):=by simp[getN,hm];rw[lx.out];exact hl
   have HG:=Hd hg;clear hg hm;go_enter Tryz.func120,Tryz.ntmps120
   go_wp2_with fail;refine HF.out.mono ?_;rintro e w1 ⟨rfl,rfl⟩;go_wp2;go_ret2
   exact⟨Xcu HG.out,rfl⟩
  ·obtain⟨mm,rfl⟩:=Int.eq_ofNat_of_zero_le (show 0≤m by omega);have hg:getN zs mm=(num zs mm,0):=by simp[getN,hm];rw[lx.out];omega
   have hm8:mm≤8:=by omega
   have hm1:1≤mm:=by omega
   have hmn:mm≤n:=by omega
   have HG:=Hd hg;clear hg hm hl;go_enter Tryz.func120,Tryz.ntmps120
   go_wp2_with fail;refine HF.out.mono ?_;rintro e w1 ⟨rfl,rfl⟩;go_wp2;go_loop [6,7,16] (fun v _ i=>∃(k:Nat),k≤mm∧i=.int .i64 k∧v=.int .u64 (num zs k)) (fun _ _ i=>mm - (intOf i).toNat)
   case atStart=>exact⟨0,Nat.zero_le _,rfl,rfl⟩
   case round =>
    obtain⟨k,hk,rfl,rfl⟩:=hrel;by_cases hlt:k<mm
    ·obtain⟨a,rfl,ha,hca⟩:=hx.byte (k:=k) (by omega);have HS:=Hd (Xum zs hb k (by omega));generalize zs.getD k 0=z at *;go_wp2;go_round
     case rel=>exact⟨k+1,by omega,by go_num,by rw[HS.out]⟩
     case measure=>simp[intOf];omega
    ·have HK:=Hd (show k=mm by omega);go_wp2;go_ret2
     exact⟨Xcu (by rw[HG.out,HK.out]),rfl⟩
def isW(keys:List (List Int))(p:Int):Bool:=decide (p<keys.length)&&decide (keys.getD p.toNat []=k3)
structure BS where
 u:Option Int
 p:Option Int
 o:Nat
 bad:Int
def BS.zero:BS:=⟨none,none,0,-1⟩
def tell(d:List Int)(s:BS):Option BS:=
 if d.length=5∧d.getD 0 0=2∧s.u=none then some ⟨some (num (d.drop 1) 4),s.p,s.o,s.bad⟩
 else if d.length=9∧d.getD 0 0=3∧s.p=none then some ⟨s.u,some (num (d.drop 1) 8),s.o,s.bad⟩
 else none
def step8(keys:List (List Int))(k:Nat)(x:LIn)(s:BS):BS:=
 if isW keys x.p=false then⟨s.u,s.p,s.o+1,s.bad⟩
 else if 0≤s.bad then s
 else(tell x.dat s).getD ⟨s.u,s.p,s.o,k⟩
def run8(keys:List (List Int))(l:List LIn):Nat→BS
 | 0=>BS.zero
 | k+1=>step8 keys k (l.getD k ⟨0,[],[]⟩) (run8 keys l k)
def all8(keys:List (List Int))(l:List LIn):BS:=run8 keys l l.length
def units8(s:BS):Int:=if s.u.getD (s.o*200000)>1400000 then 1400000 else s.u.getD (s.o*200000)
def bud8(s:BS):List Value:=[.int .u64 (units8 s),.int .u64 (s.p.getD 0),.int .i64 s.bad]
def wcells(s:BS):List Value:=[.int .u64 0,.bool false,.int .u64 0,.bool false,.int .u64 (s.u.getD 0),.bool s.u.isSome,.int .u64 (s.p.getD 0),.bool s.p.isSome]
section
variable{keys:List (List Int)}{l l':List LIn}
theorem Xbi{k:Nat}{x:LIn}(h:l[k]?=some x):run8 keys l (k+1)=step8 keys k x (run8 keys l k):=by
 show step8 keys k (l.getD k ⟨0,[],[]⟩) _=_
 rw[List.getD_eq_getElem?_getD,h];rfl
theorem Xqv{d:List Int}{s s':BS}(h:tell d s=some s'):s'.o=s.o∧s'.bad=s.bad:=by
 unfold tell at h;split at h
 ·obtain rfl:=Option.some.inj h;exact⟨rfl,rfl⟩
 ·split at h
  ·obtain rfl:=Option.some.inj h;exact⟨rfl,rfl⟩
  ·cases h
structure BSOk(k:Nat)(s:BS):Prop where
 o:s.o≤k
 bad:s.bad = -1∨(0≤s.bad∧s.bad<k)
 u:∀v,s.u=some v→0≤v∧v<4294967296
 p:∀v,s.p=some v→0≤v∧v<18446744073709551616
theorem Xw3{d:List Int}{s s':BS}{k:Nat}(hd:Bytes (d.drop 1))(hs:BSOk k s)(h:tell d s=some s'):BSOk k s':=by
 unfold tell at h;split at h
 ·obtain rfl:=Option.some.inj h;refine⟨hs.o,hs.bad,fun v hv=>?_,hs.p⟩;obtain rfl:=Option.some.inj hv;exact Xfw _ hd 4
 ·split at h
  ·obtain rfl:=Option.some.inj h;refine⟨hs.o,hs.bad,hs.u,fun v hv=>?_⟩;obtain rfl:=Option.some.inj hv;exact Xfw _ hd 8
  ·cases h
theorem Xun{s:BS}{k:Nat}{x:LIn}(hd:Bytes (x.dat.drop 1))(hs:BSOk k s):BSOk (k+1) (step8 keys k x s):=by
 have up:∀{t:BS},BSOk k t→BSOk (k+1) t:=fun ht=>⟨Nat.le_succ_of_le ht.o,ht.bad.imp_right fun h=>⟨h.1,by have:=h.2;omega⟩,ht.u,ht.p⟩
 unfold step8;split
 ·exact⟨by have:=hs.o;show s.o+1≤k+1;omega,(up hs).bad,hs.u,hs.p⟩
 ·split
  ·exact up hs
  ·cases ht:tell x.dat s with
   | none=>exact⟨(up hs).o,.inr ⟨by show(0:Int)≤(k:Int);omega,by show(k:Int)<((k+1:Nat):Int);omega⟩,hs.u,hs.p⟩
   | some s'=>exact up (Xw3 hd hs ht)
theorem Xk0(hl:∀i ∈ l,Bytes (i.dat.drop 1)):∀k,k≤l.length→BSOk k (run8 keys l k)
 | 0,_=>⟨Lr _,.inl rfl,(fun v hv=>by cases hv),(fun v hv=>by cases hv)⟩
 | k+1,hk=>by
  have hx:=List.getElem?_eq_getElem (l:=l) (i:=k) (by omega);rw[Xbi hx];exact Xun (hl _ (List.getElem_mem _)) (Xk0 hl k (by omega))
theorem Xsu(s:BS):units8 s≤1400000:=by unfold units8;split <;> omega
theorem Xpv{k:Nat}{s:BS}(h:BSOk k s):0≤units8 s:=by
 unfold units8;split
 ·omega
 ·cases hu:s.u with
  | none=>show(0:Int)≤(s.o:Int)*200000;omega
  | some v=>exact(h.u v hu).1
theorem Xuc{k:Nat}{s:BS}(h:BSOk k s):0≤s.p.getD 0∧s.p.getD 0<18446744073709551616:=by
 cases hp:s.p with
 | none=>exact⟨Int.le_refl _,by decide⟩
 | some v=>exact h.p v hp
end
def Word(x:Int):Prop:=0≤x∧x<18446744073709551616
theorem Word.nat{x:Int}(h:Word x):∃n:Nat,x=n∧n<18446744073709551616:=⟨x.toNat,by have:=h.1;omega,by have:=h.1;have:=h.2;omega⟩
theorem Xjq(x:Int):Word (x % 18446744073709551616):=⟨by omega,by omega⟩
theorem Xu9{x:Int}(h:0≤x)(h':x<18446744073709551616):Word x:=⟨h,h'⟩
theorem Xcq{a b:Int}(ha:Word a)(hb:Word b):0≤a*b∧a*b≤18446744073709551615*18446744073709551615:=by
 obtain⟨a0,a1⟩:=ha;obtain⟨b0,b1⟩:=hb;exact⟨Int.mul_nonneg a0 b0,Int.mul_le_mul (by omega) (by omega) b0 (by omega)⟩
theorem Xtc{a b:Int}(ha:Word a)(hb:Word b):Word (a*b / 18446744073709551616):=by
 have:=Xcq ha hb;exact⟨by omega,by omega⟩
theorem low32(n:Nat)(h:n<18446744073709551616):bits .and .u64 (n:Int) 4294967295=((n % 4294967296:Nat):Int):=by
 have e:=bits_and_u64_nat n 4294967295 h (by omega);rw[show n &&& 4294967295=n % 4294967296 from Nat.and_two_pow_sub_one_eq_mod n 32]at e;exact e
theorem up32(n:Nat):(n:Int) / 4294967296=((n / 4294967296:Nat):Int):=by omega
theorem in64(n:Nat)(h:n<18446744073709551616):IntKind.u64.wrap (n:Int)=n:=by rw[IntKind.wrap_u64];omega
theorem lo64(n:Nat):IntKind.u64.wrap (n:Int)=((n % 18446744073709551616:Nat):Int):=by rw[IntKind.wrap_u64];omega
theorem pair64{a b c d:Int}(h:a=c)(h':b=d):Ending.returned (.tuple #[.int .u64 a,.int .u64 b])=.returned (.tuple #[.int .u64 c,.int .u64 d]):=by rw[h,h']
theorem Xsd(a b:Int)(ha:Word a)(hb:Word b)(w:World) :
 Calls Tryz.prog 146 #[.int .u64 a,.int .u64 b] w fun e w'=>e=.returned (.tuple #[.int .u64 (a*b / 18446744073709551616),.int .u64 (a*b % 18446744073709551616)])∧w=w':=by
 obtain⟨x,rfl,hx⟩:=ha.nat;obtain⟨y,rfl,hy⟩:=hb.nat;obtain⟨m1,m2,m3,m4⟩:=Lib.mul64_hi x y hx hy;have l1:=Lib.half_mul_le (a:=x / 4294967296) (b:=y / 4294967296) (by omega) (by omega);have l2:=Lib.half_mul_le (a:=x / 4294967296) (b:=y % 4294967296) (by omega) (by omega);have l3:=Lib.half_mul_le (a:=x % 4294967296) (b:=y / 4294967296) (by omega) (by omega);have hq:x*y / 18446744073709551616<18446744073709551616:=by
  have:x*y≤18446744073709551615*18446744073709551615:=Nat.mul_le_mul (by omega) (by omega);omega
 have n1:x / 4294967296*(y / 4294967296)<18446744073709551616:=by omega
 have n2:x / 4294967296*(y % 4294967296)<18446744073709551616:=by omega
 have n3:x % 4294967296*(y / 4294967296)<18446744073709551616:=by omega
 have n4:x / 4294967296*(y / 4294967296)+(x / 4294967296*(y % 4294967296)+x % 4294967296*(y % 4294967296) / 4294967296) / 4294967296<18446744073709551616:=by omega
 have n5:=m4 ▸ hq;have E:=Hd m4;clear m4 ha hb;go_enter Tryz.func146,Tryz.ntmps146
 go_wp2;simp only[low32 x hx,low32 y hy,up32,←Int.natCast_mul,←Int.natCast_add,in64 _ m1,in64 _ m2,in64 _ n2,low32 _ m2,in64 _ n3,in64 _ m3,in64 _ n1,in64 _ n4,in64 _ n5,lo64 (x*y)];rw[E.out];go_ret2
 exact⟨pair64 (a:=((x*y / 18446744073709551616:Nat):Int)) (b:=((x*y % 18446744073709551616:Nat):Int)) (by omega) (by omega),rfl⟩
theorem mul_(a b:Int)(ha:Word a)(hb:Word b)(w:World) :
 Calls Tryz.prog 126 #[.int .u64 a,.int .u64 b] w fun e w'=>e=.returned (.tuple #[.int .u64 (a*b / 18446744073709551616),.int .u64 (a*b % 18446744073709551616)])∧w=w':=by
 have C:=fun w=>Xsd a b ha hb w
 generalize a*b / 18446744073709551616=h at *;generalize a*b % 18446744073709551616=l at *;go_enter Tryz.func126,Tryz.ntmps126
 go_wp2_with fail;refine(C _).mono ?_;rintro e w1 ⟨rfl,rfl⟩;go_wp2;go_ret2
 exact⟨rfl,rfl⟩
theorem add64(x y:Int)(hx:Word x)(hy:Word y)(w:World) :
 (callFunc 125 #[.int .u64 x,.int .u64 y,.int .u64 0]).run Tryz.prog w =
   .ok (.value (.tuple #[.int .u64 ((x+y) % 18446744073709551616),.int .u64 ((x+y) / 18446744073709551616)])) w:=by
 rw[run_callFunc_extern Tryz.func125 (by kernel_rfl) (by kernel_rfl) (by kernel_rfl) (e:=add64Entry) (by kernel_rfl),run_add64 x y 0 hx.1 hy.1 (by omega) (by omega)];simp[Result.andThen]
open Go
theorem Xkk:∀(k x:Nat),x<2 ^ k→x<2 ^ 64→x<2 ^ Lib.bitLen x
 | 0,x,h,_=>by
  have:x=0:=by omega
  subst this;decide
 | k+1,x,h,h'=>by
  by_cases h0:x=0
  ·subst h0;decide
  ·rw[Lib.bitLen_half x h0 h'];have:=Xkk k (x / 2) (by rw[Nat.pow_succ]at h;omega) (by omega);rw[Nat.add_comm,Nat.pow_succ];omega
theorem Xlk:∀(k x:Nat),x<2 ^ k→x<2 ^ 64→0<x→2 ^ Lib.bitLen x≤2*x
 | 0,x,h,_,h0=>by omega
 | k+1,x,h,h',h0=>by
  rw[Lib.bitLen_half x (by omega) h'];by_cases h1:x=1
  ·subst h1;decide
  ·have:=Xlk k (x / 2) (by rw[Nat.pow_succ]at h;omega) (by omega) (by omega);rw[Nat.add_comm,Nat.pow_succ];omega
theorem Xs0(y:Nat)(h0:0<y)(h1:y<2 ^ 64):∃s:Nat,s≤63∧Lib.bitLen y=64 - s∧2 ^ 63≤y*2 ^ s∧y*2 ^ s<2 ^ 64:=by
 have a:=Xkk 64 y h1 h1;have b:=Xlk 64 y h1 h1 h0;have c:=Lib.bitLen_le y 64 (by omega) h1;have d:1≤Lib.bitLen y:=by
  rcases Nat.eq_zero_or_pos (Lib.bitLen y)with h | h
  ·rw[h]at a;omega
  ·exact h
 generalize Lib.bitLen y=n at *;have e:2 ^ n*2 ^ (64 - n)=2 ^ 64:=by rw[←Nat.pow_add];congr 1;omega
 refine⟨64 - n,by omega,by omega,?_,?_⟩
 ·have:=Nat.mul_le_mul_right (2 ^ (64 - n)) b;rw[e,Nat.mul_assoc]at this;omega
 ·have p:0<2 ^ (64 - n):=Nat.pow_pos (by omega);have:=Nat.mul_lt_mul_of_pos_right a p;omega
section
variable{u v d v1 v0:Int}(hu:0≤u)(huv:u<v)(hd:0≤d)(hd':d<4294967296)(hv:9223372036854775808≤v)(hv':v<18446744073709551616)(e1:v1=v / 4294967296)(e0:v0=v % 4294967296)
def digit(u v d:Int):Int:=(u*4294967296+d) / v
include hu huv hd hd' hv in
theorem Xcb:0≤digit u v d∧digit u v d<4294967296:=by
 unfold digit;refine⟨Int.ediv_nonneg (by omega) (by omega),?_⟩;exact Int.ediv_lt_of_lt_mul (by omega) (by omega)
include hv in
theorem Xno{q:Int}(h:q*v≤u*4294967296+d):q≤digit u v d:=Int.le_ediv_of_mul_le (by omega) h
include hv in
theorem Xn6:digit u v d*v≤u*4294967296+d:=Int.ediv_mul_le _ (by omega)
include e1 e0 in
theorem Xn9(q:Int):q*v=q*v1*4294967296+q*v0:=by
 have:v=v1*4294967296+v0:=by omega
 rw[this,Int.mul_add,←Int.mul_assoc]
structure Guess(u v d v1 q r:Int):Prop where
 eq:q*v1+r=u
 up:digit u v d≤q
 r0:0≤r
 r1:r<4294967296
 q0:0≤q
 q1:q≤4294967297
include hu huv hd hd' hv hv' e1 e0 in
theorem Guess.first:Guess u v d v1 (u / v1) (u % v1):=by
 have p:0<v1:=by omega
 have e:=Int.mul_ediv_add_emod u v1;have a:=Int.emod_nonneg u (show v1≠0 by omega);have b:=Int.emod_lt_of_pos u p;have q0:0≤u / v1:=Int.ediv_nonneg hu (by omega);refine⟨by rw[Int.mul_comm];exact e,?_,a,by omega,q0,?_⟩
 ·have h:=Xn6 (u:=u) (d:=d) hv;rw[Xn9 e1 e0]at h;have hq:=(Xcb hu huv hd hd' hv).1;generalize digit u v d=q at *;refine Int.le_ediv_of_mul_le p ?_;have z:0≤q*v0:=Int.mul_nonneg hq (by omega);omega
 ·have:u / v1<4294967298:=Int.ediv_lt_of_lt_mul p (by omega);omega
include hv e1 e0 in
theorem Guess.done{q r:Int}(g:Guess u v d v1 q r)(h:q*v0≤4294967296*r+d):q=digit u v d:=by
 have hq:=g.eq;have hup:=g.up;refine Int.le_antisymm (Xno hv ?_) hup;rw[Xn9 e1 e0];generalize q*v1=a at *;omega
include hu huv hd hd' hv e1 e0 in
theorem Guess.big{q r:Int}(g:Guess u v d v1 q r)(h:4294967296≤q∨4294967296*r+d<q*v0):digit u v d≤q - 1:=by
 have hq:=g.eq;have hup:=g.up;rcases h with h | h
 ·have:=(Xcb hu huv hd hd' hv).2;omega
 ·have h2:=Xn6 (u:=u) (d:=d) hv;by_cases c:digit u v d=q
  ·rw[c,Xn9 e1 e0]at h2;generalize q*v1=a at *;omega
  ·omega
include hu huv hd hd' hv hv' e1 e0 in
theorem Guess.next{q r:Int}(g:Guess u v d v1 q r)(h:4294967296≤q∨4294967296*r+d<q*v0)(hr:r+v1<4294967296):Guess u v d v1 (q - 1) (r+v1):=by
 have hb:=g.big hu huv hd hd' hv e1 e0 h;have hi:=(Xcb hu huv hd hd' hv).1;have:=g.eq;have:=g.r0;have:=g.q1;refine⟨?_,hb,by omega,hr,by omega,by omega⟩;rw[Int.sub_mul,Int.one_mul];omega
include hu huv hd hd' hv e1 e0 in
theorem Guess.out{q r:Int}(g:Guess u v d v1 q r)(h:4294967296≤q∨4294967296*r+d<q*v0)(hr:4294967296≤r+v1):q - 1=digit u v d:=by
 have hb:=g.big hu huv hd hd' hv e1 e0 h;have hi:=(Xcb hu huv hd hd' hv).1;have hq:=g.eq;have:=g.r0;have:=g.q1;refine Int.le_antisymm (Xno hv ?_) hb;rw[Xn9 e1 e0];have z:(q - 1)*v0≤4294967296*4294967295:=Int.mul_le_mul (by omega) (by omega) (by omega) (by omega);have w:(q - 1)*v1=q*v1 - v1:=by rw[Int.sub_mul,Int.one_mul]
 rw[w];generalize q*v1=a at *;omega
include e0 in
theorem Guess.fit{q r:Int}(g:Guess u v d v1 q r)(h:q<4294967296):0≤q*v0∧q*v0<18446744073709551616:=by
 have:=g.q0;refine⟨Int.mul_nonneg (by omega) (by omega),?_⟩;have z:q*v0≤4294967295*4294967295:=Int.mul_le_mul (by omega) (by omega) (by omega) (by omega);omega
def left(u v d:Int):Int:=(u*4294967296+d) % v
include hv in
theorem Xk2:0≤left u v d∧left u v d<v:=⟨Int.emod_nonneg _ (by omega),Int.emod_lt_of_pos _ (by omega)⟩
theorem Xk1:u*4294967296+d - digit u v d*v=left u v d:=by
 have:=Int.mul_ediv_add_emod (u*4294967296+d) v;unfold digit left;rw[Int.mul_comm v]at this;omega
end
theorem Xo3{hi lo y:Int}{s:Nat}(h0:0≤hi)(h1:hi<y)(l0:0≤lo)(l1:lo<18446744073709551616){u v d e:Int}(hv:v=y*2 ^ s)(hde:u*18446744073709551616+d*4294967296+e=(hi*18446744073709551616+lo)*2 ^ s)
 (hu:0≤u) (huv:u<v) (hd:0≤d) (hd':d<4294967296) (he:0≤e) (he':e<4294967296) (hv9:9223372036854775808≤v) :
 digit u v d*4294967296+digit (left u v d) v e=(hi*18446744073709551616+lo) / y∧left (left u v d) v e / 2 ^ s=(hi*18446744073709551616+lo) % y:=by
 have a:=Xk1 (u:=u) (v:=v) (d:=d);have b:=Xk1 (u:=left u v d) (v:=v) (d:=e);have i1:=Xk2 (u:=u) (d:=d) hv9;have i2:=Xk2 (u:=left u v d) (d:=e) hv9;have dq:=Xcb hu huv hd hd' hv9;have dq':=Xcb i1.1 i1.2 he he' hv9;generalize left (left u v d) v e=r2 at *;generalize left u v d=r1 at *;generalize digit u v d=q1 at *;generalize digit r1 v e=q0 at *;have p:(0:Int)<2 ^ s:=Int.pow_pos (by omega);have t:(hi*18446744073709551616+lo)*2 ^ s=(q1*4294967296+q0)*v+r2:=by
  rw[←hde,Int.add_mul,Int.mul_right_comm];generalize q1*v=g at *;generalize q0*v=g' at *;omega
 generalize hi*18446744073709551616+lo=N at *;generalize q1*4294967296+q0=Q at *;subst hv;have t2:r2=(N - Q*y)*2 ^ s:=by rw[Int.sub_mul,Int.mul_assoc];omega
 have y0:0<y:=by omega
 have k0:0≤N - Q*y:=by
  apply Int.le_of_not_gt
  intro h;have:(N - Q*y)*2 ^ s<0:=Int.mul_neg_of_neg_of_pos h p;omega
 have k1:N - Q*y<y:=by
  apply Int.lt_of_mul_lt_mul_right _ (Int.le_of_lt p)
  omega
 have e1:N=(N - Q*y)+y*Q:=by rw[Int.mul_comm y];omega
 constructor
 ·rw[e1,Int.add_mul_ediv_left _ _ (by omega),Int.ediv_eq_zero_of_lt k0 k1];omega
 ·rw[t2,Int.mul_ediv_cancel _ (by omega)];rw[e1,Int.add_mul_emod_self_left];rw[←e1];exact(Int.emod_eq_of_lt k0 k1).symm
def lzRen:Go.Shelf.Ren:=⟨fun | 134=>147 | 129=>159 | n=>n,fun | 53=>44 | 3=>3 | 4=>4 | 46=>168 | 5=>5 | 9=>9 | n=>n,fun | n=>n⟩
theorem lzLays:Go.Proofs.Lays.n134 Tryz.prog lzRen:={
 mixed:=by kernel_rfl
 f129:=Tryz.func159.trans (congrArg some (by kernel_rfl))
 f134:=Tryz.func147.trans (congrArg some (by kernel_rfl))
 t3:=Tryz.underlying3
 a3:=Tryz.isAgg3
 z3:=Tryz.sizeOf3
 v3:=Tryz.zeroValue3
 t4:=Tryz.underlying4
 a4:=Tryz.isAgg4
 z4:=Tryz.sizeOf4
 v4:=Tryz.zeroValue4
 t5:=Tryz.underlying5
 a5:=Tryz.isAgg5
 z5:=Tryz.sizeOf5
 v5:=Tryz.zeroValue5
 t9:=Tryz.underlying9
 a9:=Tryz.isAgg9
 z9:=Tryz.sizeOf9
 v9:=Tryz.zeroValue9
 t46:=Tryz.underlying168
 a46:=Tryz.isAgg168
 z46:=Tryz.sizeOf168
 v46:=Tryz.zeroValue168
 t53:=Tryz.underlying44
 a53:=Tryz.isAgg44
 z53:=Tryz.sizeOf44
 v53:=Tryz.zeroValue44 }
theorem Xww(y:Int)(h0:0<y)(h1:y<18446744073709551616):∃s:Nat,s≤63∧9223372036854775808≤y*2 ^ s∧y*2 ^ s<18446744073709551616 ∧
 ∀w,Calls Tryz.prog 147 #[.int .u64 y] w fun e w'=>e=.returned (.int .i64 s)∧w=w':=by
 obtain⟨x,rfl⟩:=Int.eq_ofNat_of_zero_le (Int.le_of_lt h0);obtain⟨s,a,b,c,d⟩:=Xs0 x (by omega) (by omega);have e:(x:Int)*2 ^ s=((x*2 ^ s:Nat):Int):=by simp
 refine⟨s,a,by rw[e];omega,by rw[e];omega,fun w=>?_⟩;refine(Any.bits_LeadingZeros64 lzLays x w (by omega) (by omega)).mono ?_;rintro e' w' ⟨rfl,rfl⟩;refine⟨?_,rfl⟩;have:64 - ((Lib.bitLen ((x:Int).toNat):Nat):Int)=s:=by
  rw[Int.toNat_natCast];omega
 rw[this]
end Go.Proofs.YtdgbodljmdcagaaGreatDoor
