import Derived.Test.YtdgbodljmdcagaaGreatDoorQ3
import Derived.Deep.RegionHeld2
set_option maxRecDepth 100000
set_option maxHeartbeats 16000000
set_option linter.unusedSimpArgs false
set_option linter.unusedVariables false
namespace Go.Proofs.YtdgbodljmdcagaaGreatDoor
open Go.RowKit
theorem Xbh{α:Type}(size:Nat):∀(l:List (List α)) (k:Nat) (x:List α),(∀(i:Nat) y,l[i]?=some y→y.length=size)→l[k]?=some x→∀j u,x[j]?=some u→l.flatten[k*size+j]?=some u
 | [],k,x,_,h,_,_,_=>by simp at h
 | y::r,0,x,hl,h,j,u,hu=>by
  have:y=x:=by simpa using h
  subst this;have hj:=(List.getElem?_eq_some_iff.1 hu).1;rw[List.flatten_cons,List.getElem?_append_left (by simpa using hj)];simpa using hu
 | y::r,k+1,x,hl,h,j,u,hu=>by
  have hy:=hl 0 y (by simp);rw[List.flatten_cons,List.getElem?_append_right (by rw[hy,Nat.add_mul];omega)];have:=Xbh size r k x (fun i z hz=>hl (i+1) z (by simpa using hz)) (by simpa using h) j u hu;rw[←this];congr 1
  rw[hy,Nat.add_mul];omega
theorem Xfj{w:World}{base n size c:Nat}{e:TypeId}{A:Option Addr}{xs:List Value}(h:w.ownsRow base e size (.slice A n c) n xs){i:Nat}{u:Value}(hu:xs[i]?=some u) :
 ∃g,A=some ⟨g,0,none⟩∧(Value.slice A n c).ownBlock=some g∧base≤g∧g<w.heap.size∧w.cell? ⟨g,i,none⟩=some u:=by
 rcases h.2 with⟨h1,h2⟩ | ⟨g,cap,cur,hv,hg,hh,r1,r2,r3,r4⟩
 ·subst h2;have h3:=h.1;rw[Nat.zero_mul]at h3;rw[List.length_eq_zero_iff.1 h3]at hu;simp at hu
 ·cases hv
  refine⟨g,rfl,rfl,hg,(Array.getElem?_eq_some_iff.1 hh).1,?_⟩;rw[cell_of_row w g i cur e (0,0) hh];rw[←r4,List.getElem?_take]at hu;split at hu
  ·simpa using hu
  ·cases hu
theorem Xk3{w:World}{base n size c:Nat}{e:TypeId}{A:Option Addr}{xs:List Value}(h:w.ownsRow base e size (.slice A n c) n xs):n≤c∧c≤maxLen:=by
 rcases h.2 with⟨h1,h2⟩ | ⟨g,cap,cur,hv,hg,hh,r1,r2,r3,r4⟩
 ·cases h1
  simp[maxLen]
 ·cases hv
  exact⟨r1,r2⟩
theorem OwnR.in_{w:World}{lo hi B:Nat}{v:Value}{l:List Int}(h:OwnR w lo hi v l)(hB:hi≤B):BytesIn w B v l:=by
 obtain⟨A,c,rfl⟩:=h.own.form;have hc:=Xk3 h.own;refine⟨A,c,rfl,⟨bL _,fun i u hu=>?_⟩,hc.1,hc.2⟩;obtain⟨g,rfl,h1,h2,h3,h4⟩:=Xfj h.own hu;have:=h.lt g h1;exact⟨_,rfl,by show g<B;omega,by rw[Xa5,Nat.zero_add];exact h4⟩
theorem LVR.at_{α:Type}{EV:World→Nat→Nat→List Value→α→Prop}{e size:Nat}{w:World}{lo hi:Nat}{A:Option Addr}{n c:Nat}{l:List α}(h:LVR EV e size w lo hi (.slice A n c) l)(hS:Stays EV)
 (hlen:∀w lo hi cs x,EV w lo hi cs x→cs.length=size) :
 l.length=n∧(n≤c∧c≤maxLen)∧∀i x,l[i]?=some x→∃g cs L R,A=some ⟨g,0,none⟩∧g<hi∧(∀j u,cs[j]?=some u→w.cell? ⟨g,i*size+j,none⟩=some u)∧L≤R∧R≤hi∧EV w L R cs x:=by
 obtain⟨w0,css,L,R,h1,h2,h3,h4⟩:=h;obtain⟨A',c',e'⟩:=h1.form;cases e'
 refine⟨rfl,Xk3 h1.own,fun i x hx=>?_⟩;have hi':=(List.getElem?_eq_some_iff.1 hx).1;have hl:∀(i:Nat) y,css[i]?=some y→y.length=size:=fun i y hy=>by
  have hi2:=(List.getElem?_eq_some_iff.1 hy).1;rw[h1.len]at hi2;exact hlen _ _ _ _ _ (h1.each i y _ hy (List.getElem?_eq_getElem hi2)).2.2.2.1
 obtain⟨cs,hcs⟩:∃cs,css[i]?=some cs:=⟨_,List.getElem?_eq_getElem (by rw[h1.len];exact hi')⟩;obtain⟨k1,k2,k3,k4,k5⟩:=h1.each i cs x hcs hx;obtain⟨g,cap,cur,hv,hg,hh⟩:∃g cap cur,(Value.slice A l.length c)=.slice (some ⟨g,0,none⟩) l.length cap∧lo≤g∧w0.heap[g]?=some (.cells cur e (0,0)):=by
  rcases h1.own.2 with⟨h5,h6⟩ | ⟨g,cap,cur,hv,hg,hh,_⟩
  ·omega
  ·exact⟨g,cap,cur,hv,hg,hh⟩
 have hglt:=(Array.getElem?_eq_some_iff.1 hh).1;cases hv
 refine⟨g,cs,L i,R i,rfl,by omega,fun j u hu=>?_,k2,by omega,hS w0 w _ _ _ _ (fun k a b=>h4 k (by omega) (by omega)) k4⟩;obtain⟨g',e1,_,_,_,h7⟩:=Xfj h1.own (Xbh size css i cs hl hcs j u hu);cases e1
 rw[←h7];exact World.cell?_of_block (h4 g hg (by omega))
theorem KeysIn.of_list{w:World}{B:Nat}{A:Option Addr}{n:Nat}{l:List (List Int)}(hn:l.length=n)(h:∀(i:Nat) x,l[i]?=some x→x.length=32∧∃g,A=some ⟨g,0,none⟩∧g<B∧∀j u,(bv x)[j]?=some u→w.cell? ⟨g,i*32+j,none⟩=some u):KeysIn w B A n l:=by
 have he:∀k ∈ l,k.length=32:=fun k hk=>by
  obtain⟨i,hi,rfl⟩:=List.getElem_of_mem hk;exact(h i _ (List.getElem?_eq_getElem hi)).1
 have hf:l.flatten.length=n*32:=by
  rw[←hn];clear hn h;induction l with
  | nil=>rfl
  | cons y r ih =>
   have h1:=ih (fun k hk=>he k (by simp[hk]));have h2:=he y (by simp);simp only[List.flatten_cons,List.length_append,List.length_cons,h1,h2];omega
 refine⟨hn,he,⟨by rw[bL];exact hf,fun i u hu=>?_⟩⟩;have hi:=(List.getElem?_eq_some_iff.1 hu).1;rw[bL,hf]at hi;have hk:i / 32<l.length:=by omega
 obtain⟨h1,g,rfl,h2,h3⟩:=h (i / 32) _ (List.getElem?_eq_getElem hk);refine⟨_,rfl,h2,?_⟩;rw[Xa5,Nat.zero_add];have hlt:i % 32<(bv l[i / 32]).length:=by rw[bL,h1];omega
 obtain⟨u',hu'⟩:∃u',(bv l[i / 32])[i % 32]?=some u':=⟨_,List.getElem?_eq_getElem hlt⟩;have h4:=h3 _ _ hu';rw[show i / 32*32+i % 32=i by omega]at h4;rw[h4];rw[bv_getElem?]at hu hu';obtain⟨z',hz',rfl⟩:∃z,(l[i / 32])[i % 32]?=some z∧u'=.int .u8 z:=by
  cases hq:(l[i / 32])[i % 32]? with
  | none=>rw[hq]at hu';simp at hu'
  | some z=>rw[hq]at hu';exact⟨z,rfl,by simpa using hu'.symm⟩
 have h5:=Xbh 32 l (i / 32) _ (fun i y hy=>he y (List.mem_of_getElem? hy)) (List.getElem?_eq_getElem hk) (i % 32) z' hz';rw[show i / 32*32+i % 32=i by omega]at h5;rw[h5]at hu;exact hu
theorem MsgV.in_{w:World}{lo hi:Nat}{q:Raw}{m:LMsg}(h:MsgV w lo hi q m):MsgIn w hi q m:=by
 obtain⟨a1,b1,a2,b2,a3,b3,ho,h5,h6,h7⟩:=h.is;obtain⟨k1,k2,k3⟩:=h5.at_ Xaw (fun w lo hi cs x hx=>by rw[hx.1,bL,hx.2]);obtain⟨i1,i2,i3⟩:=h6.at_ Xd7 (fun w lo hi cs x hx=>by obtain⟨_,_,_,rfl,_⟩:=hx;rfl);obtain⟨l1,l2,l3⟩:=h7.at_ Xe7 (fun w lo hi cs x hx=>by obtain⟨_,_,_,rfl,h,_⟩:=hx;simp[bL,h]);refine⟨h.recent,KeysIn.of_list k1 fun i x hx=>?_,⟨i1,fun i x hx=>?_⟩,⟨l1,fun i x hx=>?_⟩,k2,i2,l2⟩
 ·obtain⟨g,cs,L,R,e,hg,hc,hL,hR,hE⟩:=k3 i x hx;obtain⟨rfl,hl⟩:=hE;exact⟨hl,g,e,by omega,hc⟩
 ·obtain⟨g,cs,L,R,e,hg,hc,hL,hR,hE⟩:=i3 i x hx;obtain⟨va,vd,mid,rfl,h1,h2,h3,h4⟩:=hE;refine⟨_,va,vd,e,by show g<hi;omega,?_,?_,?_,h3.in_ (by omega),h4.in_ (by omega)⟩
  ·rw[Xa5,Nat.zero_add];exact hc 0 _ rfl
  ·rw[Xa5,Nat.zero_add];exact hc 1 _ rfl
  ·rw[Xa5,Nat.zero_add];exact hc 2 _ rfl
 ·obtain⟨g,cs,L,R,e,hg,hc,hL,hR,hE⟩:=l3 i x hx;obtain⟨va,vd,mid,rfl,h0,h1,h2,h3,h4⟩:=hE;exact⟨_,va,vd,e,by show g<hi;omega,fun j u hu=>by rw[Xa5,Nat.zero_add];exact hc j u hu,h0,h3.in_ (by omega),h4.in_ (by omega)⟩
def sheetCells(l:Value)(h f:List Int):List Value:=l::(bv h++bv f)
theorem Xj0{w:World}{g t:Nat}{l:Value}{h f:List Int}(hr:Row w g t (sheetCells l h f))(hh:h.length=32):∀j v,(bv h)[j]?=some v→w.cell? ((⟨g,1,none⟩:Addr).add j)=some v:=fun j v hv=>by
 have hj:=(List.getElem?_eq_some_iff.1 hv).1;rw[Xa5,hr.cell,show 1+j=j+1 by omega];show(bv h++bv f)[j]?=_
 rw[List.getElem?_append_left hj];exact hv
theorem Xli{w:World}{g t:Nat}{l:Value}{h f:List Int}(hr:Row w g t (sheetCells l h f))(hh:h.length=32):∀j v,(bv f)[j]?=some v→w.cell? ((⟨g,33,none⟩:Addr).add j)=some v:=fun j v hv=>by
 rw[Xa5,hr.cell,show 33+j=(32+j)+1 by omega];show(bv h++bv f)[32+j]?=_
 rw[List.getElem?_append_right (by rw[bL,hh];omega),bL,hh,show 32+j - 32=j by omega];exact hv
def keyRow(n:Nat)(z:List Int):List Value:=(List.replicate n (bv z)).flatten
theorem Xc7(n:Nat){z:List Int}(hz:z.length=32):(keyRow n z).length=n*32:=by
 unfold keyRow;induction n with
 | zero=>rfl
 | succ n ih=>rw[List.replicate_succ,List.flatten_cons,List.length_append,ih,bL,hz];omega
theorem Xhh(n:Nat)(z:List Int):keyRow (n+1) z=keyRow n z++bv z:=by
 unfold keyRow;rw[List.replicate_succ',List.flatten_append];simp
theorem Xjf{k:Nat}{z:List Int}(hz:z.length=32)(xs ys:List Value)(hys:(k+1)*32≤ys.length) :
 (xs++(keyRow k z++ys.drop (k*32))).take (xs.length+k*32)++bv z++(xs++(keyRow k z++ys.drop (k*32))).drop (xs.length+k*32+(bv z).length)=xs++(keyRow (k+1) z++ys.drop ((k+1)*32)):=by
 have hl:=Xc7 k hz;have hl2:(xs++keyRow k z).length=xs.length+k*32:=by rw[List.length_append,hl]
 have e2:xs.length+k*32+(bv z).length=(xs++keyRow k z).length+32:=by rw[hl2,bL,hz]
 rw[←List.append_assoc,List.take_left' hl2,e2,List.drop_length_add_append,List.drop_drop,Xhh,show k*32+32=(k+1)*32 by omega];simp only[List.append_assoc]
theorem Xe8{z:List Int}(hz:z.length=32):(Tryz.prog.info? 78).map (·.size)=some (bv z).length:=by rw[Xab,bL,hz]
theorem Xlz(g n c:Nat)(h f:List Int)(xs:List Value)(w:World)(hr:Row w g 78 xs)(hl:c*32≤xs.length)(hnc:n≤c)(hc:c≤9223372036854775807)(hh:h.length=32)(hf:f.length=32) :
 Calls Tryz.prog 197 #[.agg (sheetCells (.slice (some ⟨g,0,none⟩) n c) h f).toArray,.bool false] w fun e w'=>e=.returned (.tuple #[])∧Row w' g 78 (keyRow n h++xs.drop (n*32))∧w.grownBy w' (some g):=by
 have hlt:=hr.lt;have HL:=Hd hl;have HH:=Hd (And.intro hh hf);have R:=Hd (hr.alloc (.cells (sheetCells (.slice (some ⟨g,0,none⟩) n c) h f).toArray 208));have HB:=Hd (Row.new w 208 (sheetCells (.slice (some ⟨g,0,none⟩) n c) h f));have G0:=World.grownBy_alloc w (.cells (sheetCells (.slice (some ⟨g,0,none⟩) n c) h f).toArray 208) (some g);clear hr hl hh hf;generalize hC:(sheetCells (.slice (some ⟨g,0,none⟩) n c) h f).toArray=C at *;go_enter Tryz.func197,Tryz.ntmps197
 go_wp2_with fail;go_loopw [4] (fun i wr=>∃k:Nat,k≤n∧i=.int .i64 k∧Row wr g 78 (keyRow k h++xs.drop (k*32))∧Row wr w.heap.size 208 (sheetCells (.slice (some ⟨g,0,none⟩) n c) h f)∧w.grownBy wr (some g)) (fun i _=>n - (intOf i).toNat)
 case atStart=>exact⟨0,Nat.zero_le _,rfl,by simpa [keyRow]using R.out,hC ▸ HB.out,G0⟩
 case round =>
  obtain⟨k,hk,rfl,hr,hb,hg⟩:=hrel;clear R HB G0;have RR:=Hd hr;have RB:=Hd hb;have GG:=Hd hg;have b0:wr.cell? ⟨w.heap.size,0,none⟩=some (.slice (some ⟨g,0,none⟩) n c):=hb.cell 0;clear hr hb hg;by_cases hlt2:k<n
  ·go_wp2_with (first
    | ((with_reducible show wpList _ _ _ (⟨some 20,_,_,_,_,_⟩::_) _ _);go_must(refine Xa3 rfl 78 (.tmp 19) rfl ⟨w.heap.size,1,none⟩ (bv h) _ Tryz.underlying78 rfl (Xe8 HH.out.1) (Xj0 RB.out HH.out.1) ?_ ?_;go_simp))
    | ((with_reducible show wpList _ _ _ (⟨none,Op.store 78 _ _,_,_,_,_⟩::_) _ _);go_must(refine Xa9 rfl 78 (.tmp 21) (.tmp 20) rfl g 78 (k*32) _ (bv h) RR.out (Xe8 HH.out.1) (by have:=HL.out;have:=Xc7 k HH.out.1;rw[List.length_append,List.length_drop,bL,HH.out.1];omega) (Xae h) ?_ ?_ ?_;go_simp;go_simp;intro w2 hr2 ht2;have HR2:=Hd hr2;have HT2:=Hd ht2;clear hr2 ht2)))
   go_roundw
   case rel =>
    refine⟨k+1,by omega,by go_num,?_,HT2.out.row RB.out (by omega),Xax GG.out ⟨HT2.out.os,HT2.out.tape,HT2.out.output,by rw[HT2.out.size];exact Lr _,fun q hq hne=>HT2.out.block q (fun e=>hne (by rw[e]))⟩⟩;have:=HR2.out;have e:=Xjf (k:=k) HH.out.1 [] xs (by have:=HL.out;omega);simp only[List.nil_append,List.length_nil,Nat.zero_add]at e;rwa [e]at this
   case measure=>simp[intOf];omega
  ·have hk':k=n:=by omega
   have R2:Hid (Row wr g 78 (keyRow n h++xs.drop (n*32))):=by rw[←hk'];exact RR.out
   clear hk' RR;go_wp2_with fail;refine bodyPost_ret (results_none rfl _ _ _) rfl ?_;exact⟨rfl,R2.out,GG.out⟩
theorem Xot(g n c:Nat)(h f:List Int)(xs ys:List Value)(w:World)(hr:Row w g 78 (xs++ys))(hn:xs.length=n*32)(hl:(c - n)*32≤ys.length)(hnc:n≤c)(hc:c≤9223372036854775807)(hh:h.length=32)(hf:f.length=32) :
 Calls Tryz.prog 197 #[.agg (sheetCells (.slice (some ⟨g,0,none⟩) n c) h f).toArray,.bool true] w fun e w'=>e=.returned (.tuple #[])∧Row w' g 78 (xs++(keyRow (c - n) f++ys.drop ((c - n)*32)))∧w.grownBy w' (some g):=by
 have hlt:=hr.lt;have HL:=Hd hl;have HN:=Hd hn;have HH:=Hd (And.intro hh hf);have R:=Hd (hr.alloc (.cells (sheetCells (.slice (some ⟨g,0,none⟩) n c) h f).toArray 208));have hB:=Row.new w 208 (sheetCells (.slice (some ⟨g,0,none⟩) n c) h f);have HB:=Hd hB;have G0:=World.grownBy_alloc w (.cells (sheetCells (.slice (some ⟨g,0,none⟩) n c) h f).toArray 208) (some g);have b0:(w.alloc (.cells (sheetCells (.slice (some ⟨g,0,none⟩) n c) h f).toArray 208)).cell? ⟨w.heap.size,0,none⟩=some (.slice (some ⟨g,0,none⟩) n c):=hB.cell 0;clear hr hl hn hh hf hB;generalize hC:(sheetCells (.slice (some ⟨g,0,none⟩) n c) h f).toArray=C at *;go_enter Tryz.func197,Tryz.ntmps197
 go_wp2_with fail;go_loopw [6] (fun i wr=>∃k:Nat,n+k≤c∧i=.int .i64 ((n+k:Nat):Int)∧Row wr g 78 (xs++(keyRow k f++ys.drop (k*32)))∧Row wr w.heap.size 208 (sheetCells (.slice (some ⟨g,0,none⟩) n c) h f)∧w.grownBy wr (some g)) (fun i _=>c - (intOf i).toNat)
 case atStart=>exact⟨0,by omega,rfl,by simpa [keyRow]using R.out,hC ▸ HB.out,G0⟩
 case round =>
  obtain⟨k,hk,rfl,hr,hb,hg⟩:=hrel;clear R HB G0;have RR:=Hd hr;have RB:=Hd hb;have GG:=Hd hg;clear hr hb hg b0;by_cases hlt2:n+k<c
  ·generalize hj:n+k=j at *;have HJ:=Hd hj;clear hj;go_wp2_with (first
    | ((with_reducible show wpList _ _ _ (⟨some 40,_,_,_,_,_⟩::_) _ _);go_must(refine Xa3 rfl 78 (.tmp 39) rfl ⟨w.heap.size,33,none⟩ (bv f) _ Tryz.underlying78 rfl (Xe8 HH.out.2) (Xli RB.out HH.out.1) ?_ ?_;go_simp))
    | ((with_reducible show wpList _ _ _ (⟨none,Op.store 78 _ _,_,_,_,_⟩::_) _ _);go_must(refine Xa9 rfl 78 (.tmp 41) (.tmp 40) rfl g 78 (j*32) _ (bv f) RR.out (Xe8 HH.out.2) (by have:=HL.out;have:=HN.out;have:=HJ.out;have:=Xc7 k HH.out.2;simp only[List.length_append,List.length_drop,bL,HH.out.2];omega) (Xae f) ?_ ?_ ?_;go_simp;go_simp;intro w2 hr2 ht2;have HR2:=Hd hr2;have HT2:=Hd ht2;clear hr2 ht2)))
   go_roundw
   case rel =>
    refine⟨k+1,by have:=HJ.out;omega,by rw[←HJ.out];go_num,?_,HT2.out.row RB.out (by omega),Xax GG.out ⟨HT2.out.os,HT2.out.tape,HT2.out.output,by rw[HT2.out.size];exact Lr _,fun q hq hne=>HT2.out.block q (fun e=>hne (by rw[e]))⟩⟩;have:=HR2.out;have e:=Xjf (k:=k) HH.out.2 xs ys (by have:=HL.out;have:=HJ.out;omega);rw[show xs.length+k*32=j*32 by have:=HN.out;have:=HJ.out;omega]at e;rwa [e]at this
   case measure=>simp[intOf];omega
  ·have hk':k=c - n:=by omega
   have R2:Hid (Row wr g 78 (xs++(keyRow (c - n) f++ys.drop ((c - n)*32)))):=by
    have:=RR.out;rw[hk']at this;exact this
   have hj2:¬(((n+k:Nat):Int)<(c:Int)):=by omega
   clear hk' RR;generalize n+k=j at *;go_wp2_with fail;go_end0
   exact⟨rfl,R2.out,GG.out⟩
theorem Xho{n k:Nat}{z:List Int}(hz:z.length=32)(hk:k<n){j:Nat}{v:Value}(hv:(bv z)[j]?=some v):(keyRow n z)[k*32+j]?=some v:=
 Xbh 32 (List.replicate n (bv z)) k (bv z) (fun i y hy=>by
  have:=List.mem_of_getElem? hy;rw[List.eq_of_mem_replicate this,bL,hz]) (by rw[List.getElem?_replicate_of_lt hk]) j v hv
theorem Xqm(g n c:Nat)(h f:List Int)(zs:List Value)(w:World)(hr:Row w g 78 (keyRow n h++(keyRow (c - n) f++zs)))(hnc:n≤c)(hc:c≤9223372036854775807)(hh:h.length=32)(hf:f.length=32) :
 Calls Tryz.prog 196 #[.agg (sheetCells (.slice (some ⟨g,0,none⟩) n c) h f).toArray] w fun e w'=>e=.returned (.bool true)∧w.grownBy w' none:=by
 have hlt:=hr.lt;have HH:=Hd (And.intro hh hf);have R0:=Hd (hr.alloc (.cells (sheetCells (.slice (some ⟨g,0,none⟩) n c) h f).toArray 208));have HB:=Hd (Row.new w 208 (sheetCells (.slice (some ⟨g,0,none⟩) n c) h f));have b0:(w.alloc (.cells (sheetCells (.slice (some ⟨g,0,none⟩) n c) h f).toArray 208)).cell? ⟨w.heap.size,0,none⟩=some (.slice (some ⟨g,0,none⟩) n c):=HB.out.cell 0;have G0:=World.grownBy_alloc w (.cells (sheetCells (.slice (some ⟨g,0,none⟩) n c) h f).toArray 208) none;have NH:=fun w=>Xg8 Tryz.underlying78 h hh w
 have NF:=fun w=>Xg8 Tryz.underlying78 f hf w
 have C1:Hid (∀k,k<n→∀j v,(bv h)[j]?=some v→(w.alloc (.cells (sheetCells (.slice (some ⟨g,0,none⟩) n c) h f).toArray 208)).cell? ((⟨g,k*32,none⟩:Addr).add j)=some v):=Hd fun k hk j v hv=>by
  rw[Xa5,R0.out.cell,List.getElem?_append_left (by rw[Xc7 n hh];have:=(List.getElem?_eq_some_iff.1 hv).1;rw[bL,hh]at this;omega)];exact Xho hh hk hv
 have C2:Hid (∀k,k<c - n→∀j v,(bv f)[j]?=some v→(w.alloc (.cells (sheetCells (.slice (some ⟨g,0,none⟩) n c) h f).toArray 208)).cell? ((⟨g,(n+k)*32,none⟩:Addr).add j)=some v):=Hd fun k hk j v hv=>by
  rw[Xa5,R0.out.cell,List.getElem?_append_right (by rw[Xc7 n hh];omega),Xc7 n hh,show(n+k)*32+j - n*32=k*32+j by omega,List.getElem?_append_left (by rw[Xc7 _ hf];have:=(List.getElem?_eq_some_iff.1 hv).1;rw[bL,hf]at this;omega)];exact Xho hf hk hv
 have C3:Hid (∀j v,(bv h)[j]?=some v→(w.alloc (.cells (sheetCells (.slice (some ⟨g,0,none⟩) n c) h f).toArray 208)).cell? ((⟨w.heap.size,1,none⟩:Addr).add j)=some v):=Hd (Xj0 HB.out hh);have C4:Hid (∀j v,(bv f)[j]?=some v→(w.alloc (.cells (sheetCells (.slice (some ⟨g,0,none⟩) n c) h f).toArray 208)).cell? ((⟨w.heap.size,33,none⟩:Addr).add j)=some v):=Hd (Xli HB.out hh);have SH:=Hd (Xe8 hh);have SF:=Hd (Xe8 hf);clear hr hh hf R0 HB HH;generalize bv h=H at *;generalize bv f=F at *;generalize hC:(sheetCells (.slice (some ⟨g,0,none⟩) n c) h f).toArray=C at *;clear hC;go_enter Tryz.func196,Tryz.ntmps196
 go_wp2_with fail;generalize w.alloc (.cells C 208)=W at *;go_loopw [3] (fun i wr=>∃k j:Nat,k≤n∧i=.int .i64 k∧wr=W.drewN j) (fun i _=>n - (intOf i).toNat)
 case atStart=>exact⟨0,0,Nat.zero_le _,rfl,rfl⟩
 case round =>
  obtain⟨k,j,hk,rfl,rfl⟩:=hrel;by_cases hlt2:k<n
  ·go_wp2_with fail;refine wp_region_quiet_lit (by kernel_rfl) (by kernel_rfl) ?_;repeat (first
    | ((with_reducible show wpQuiet _ _ _ _ (⟨some 17,_,_,_,_,_⟩::_) _);go_must(refine Xa6 (by kernel_rfl) 78 (.tmp 16) rfl ⟨g,k*32,none⟩ H _ Tryz.underlying78 rfl SH.out (by rintro _ ⟨nq,rfl⟩;exact C1.out k hlt2) ?_ ?_;go_simp;go_simp))
    | ((with_reducible show wpQuiet _ _ _ _ (⟨some 19,_,_,_,_,_⟩::_) _);go_must(refine Xa6 (by kernel_rfl) 78 (.tmp 18) rfl ⟨w.heap.size,1,none⟩ H _ Tryz.underlying78 rfl SH.out (by rintro _ ⟨nq,rfl⟩;exact C3.out) ?_ ?_;go_simp;go_simp))
    | go_big_quiet_step (fail))
   refine wpQuiet_nil ?_;intro nq;go_wp2_with fail;go_roundw
   case rel=>exact⟨k+1,j+nq,by omega,by go_num,by simp⟩
   case measure=>simp[intOf];omega
  ·go_wp2_with fail;go_loopw [5] (fun i wr=>∃k j:Nat,n+k≤c∧i=.int .i64 ((n+k:Nat):Int)∧wr=W.drewN j) (fun i _=>c - (intOf i).toNat)
   case atStart=>exact⟨0,j,by omega,rfl,rfl⟩
   case round =>
    obtain⟨k,j,hk,rfl,rfl⟩:=hrel;by_cases hlt2:n+k<c
    ·have C2k:=Hd (C2.out k (by omega));generalize hjj:n+k=t at *;have HJ:=Hd hjj;clear hjj;go_wp2_with fail;refine wp_region_quiet_lit (by kernel_rfl) (by kernel_rfl) ?_;repeat (first
      | ((with_reducible show wpQuiet _ _ _ _ (⟨some 39,_,_,_,_,_⟩::_) _);go_must(refine Xa6 (by kernel_rfl) 78 (.tmp 38) rfl ⟨g,t*32,none⟩ F _ Tryz.underlying78 rfl SF.out (by rintro _ ⟨nq,rfl⟩;exact C2k.out) ?_ ?_;go_simp;go_simp))
      | ((with_reducible show wpQuiet _ _ _ _ (⟨some 41,_,_,_,_,_⟩::_) _);go_must(refine Xa6 (by kernel_rfl) 78 (.tmp 40) rfl ⟨w.heap.size,33,none⟩ F _ Tryz.underlying78 rfl SF.out (by rintro _ ⟨nq,rfl⟩;exact C4.out) ?_ ?_;go_simp;go_simp))
      | go_big_quiet_step (fail))
     refine wpQuiet_nil ?_;intro nq;go_wp2_with fail;go_roundw
     case rel=>exact⟨k+1,j+nq,by have:=HJ.out;omega,by rw[←HJ.out];go_num,by simp⟩
     case measure=>simp[intOf];omega
    ·have hj2:¬(((n+k:Nat):Int)<(c:Int)):=by omega
     generalize n+k=t at *;go_wp2_with fail;go_ret;exact⟨rfl,Xax G0 ⟨rfl,rfl,rfl,Lr _,fun _ _ _=>rfl⟩⟩
theorem Xl0(b:Bool)(h f:List Int)(w:World) :
 Calls Tryz.prog 197 #[.agg (sheetCells (.slice none 0 0) h f).toArray,.bool b] w fun e w'=>e=.returned (.tuple #[])∧w.grownBy w' none:=by
 have G0:=World.grownBy_alloc w (.cells (sheetCells (.slice none 0 0) h f).toArray 208) none;have b0:(w.alloc (.cells (sheetCells (.slice none 0 0) h f).toArray 208)).cell? ⟨w.heap.size,0,none⟩=some (.slice none 0 0):=(Row.new w 208 (sheetCells (.slice none 0 0) h f)).cell 0;generalize (sheetCells (.slice none 0 0) h f).toArray=C at *;cases b
 ·go_enter Tryz.func197,Tryz.ntmps197
  go_wp2;go_loop [4] (fun i=>i=.int .i64 0) (fun _=>0)
  case atStart=>rfl
  case round =>
   subst hrel;go_wp2;refine bodyPost_ret (results_none rfl _ _ _) rfl ?_;exact⟨rfl,G0⟩
 ·go_enter Tryz.func197,Tryz.ntmps197
  go_wp2;go_loop [6] (fun i=>i=.int .i64 0) (fun _=>0)
  case atStart=>rfl
  case round =>
   subst hrel;go_wp2;go_end0
   exact⟨rfl,G0⟩
theorem Xv1(h f:List Int)(w:World) :
 Calls Tryz.prog 196 #[.agg (sheetCells (.slice none 0 0) h f).toArray] w fun e w'=>e=.returned (.bool true)∧w.grownBy w' none:=by
 have G0:=World.grownBy_alloc w (.cells (sheetCells (.slice none 0 0) h f).toArray 208) none;have b0:(w.alloc (.cells (sheetCells (.slice none 0 0) h f).toArray 208)).cell? ⟨w.heap.size,0,none⟩=some (.slice none 0 0):=(Row.new w 208 (sheetCells (.slice none 0 0) h f)).cell 0;generalize (sheetCells (.slice none 0 0) h f).toArray=C at *;go_enter Tryz.func196,Tryz.ntmps196
 go_wp2;go_loop [3] (fun i=>i=.int .i64 0) (fun _=>0)
 case atStart=>rfl
 case round =>
  subst hrel;go_wp2;go_loop [5] (fun i=>i=.int .i64 0) (fun _=>0)
  case atStart=>rfl
  case round =>
   subst hrel;go_wp2;go_ret;exact⟨rfl,G0⟩
theorem Xfe{k l m:IntKind}{a b c:Int}{p:Int × Int × Int}(h:p=(a,b,c)):Ending.returned (.tuple #[.int k a,.int l b,.int m c])=.returned (.tuple #[.int k p.1,.int l p.2.1,.int m p.2.2]):=by rw[h]
theorem Xh9{zs:List Int}{e:Int}(he:e≠0)(h:mea zs=(0,e)):getS zs=(0,0,e):=by simp[getS,h,he]
def Pre(zs:List Int)(k:Nat)(p q:Int):Prop:=
 (k=0∧p=0∧q=1)∨(k=1∧p=zs.getD 0 0 - 128∧q=128)∨(k=2∧p=zs.getD 0 0 - 128+128*(zs.getD 1 0 - 128)∧q=16384)
theorem Pre.ok{zs:List Int}{k:Nat}{p q z v:Int}(h:Pre zs k p q)(hz:zs.getD k 0=z)(h0:0≤z)(h1:z<128)(hm:mea zs=((k:Int)+1,0))(hv:v=p+z % 128*q):getS zs=(v,(k:Int)+1,0):=by
 rcases h with⟨rfl,rfl,rfl⟩ | ⟨rfl,rfl,rfl⟩ | ⟨rfl,rfl,rfl⟩ <;> simp[getS,hm]at*<;> omega
theorem Pre.on{zs:List Int}{k:Nat}{p q z v u:Int}(h:Pre zs k p q)(hz:zs.getD k 0=z)(h0:128≤z)(h1:z<256)(hk:k<2)(hv:v=p+z % 128*q)(hu:u=q*128):Pre zs (k+1) v u:=by
 rcases h with⟨rfl,rfl,rfl⟩ | ⟨rfl,rfl,rfl⟩ | ⟨rfl,rfl,rfl⟩
 ·right;left;refine⟨rfl,by omega,by omega⟩
 ·right;right;refine⟨rfl,by omega,by omega⟩
 ·omega
theorem Pre.bound{zs:List Int}{k:Nat}{p q:Int}(h:Pre zs k p q)(hb:Bytes zs)(h0:0<k→128≤zs.getD 0 0)(h1:1<k→128≤zs.getD 1 0):0≤p∧p<16384:=by
 have:=hb 0;have:=hb 1;rcases h with⟨rfl,rfl,rfl⟩ | ⟨rfl,rfl,rfl⟩ | ⟨rfl,rfl,rfl⟩ <;> simp at*<;> omega
theorem Xfb(A:Option Addr)(n c:Nat)(zs:List Int)(w:World)(S:Nat)
 (hx:Sees w S A n (bv zs)) (hn:n≤maxLen) (hb:Bytes zs) :
 Calls Tryz.prog 139 #[.slice A n c] w fun e w'=>e=.returned (.tuple #[.int .i64 (getS zs).1,.int .i64 (getS zs).2.1,.int .i64 (getS zs).2.2])∧w=w':=by
 unfold maxLen at hn;have lx:=Hd (show zs.length=n by have:=hx.len;rwa [bL]at this);have HB:=Hd hb;go_enter Tryz.func139,Tryz.ntmps139
 go_wp2;go_loop [5,6,7,8] (fun p q i _=>∃(k:Nat) (P Q:Int),k≤n∧k≤2∧i=.int .i64 k∧p=.int .i64 P∧q=.int .i64 Q∧(0<k→128≤zs.getD 0 0)∧(1<k→128≤zs.getD 1 0)∧Pre zs k P Q) (fun _ _ i _=>n - (intOf i).toNat)
 case atStart=>exact⟨0,0,1,Nat.zero_le _,Nat.zero_le _,rfl,rfl,rfl,by omega,by omega,.inl ⟨rfl,rfl,rfl⟩⟩
 case round =>
  obtain⟨k,p,q,hk,hk2,rfl,rfl,rfl,h0,h1,hp⟩:=hrel;have hpb:=hp.bound hb h0 h1;have H0:=Hd h0;have H1:=Hd h1;have HP:=Hd hp;by_cases hlt:k<n
  ·obtain⟨a,rfl,ha,hca⟩:=hx.byte hlt;have hbk:=hb k;clear hx hb h0 h1;generalize hz:zs.getD k 0=z at hca hbk;have HZ:=Hd hz;clear hz;rcases hp with⟨hkk,-,rfl⟩ | ⟨hkk,-,rfl⟩ | ⟨hkk,-,rfl⟩ <;> (have hle:=Nat.le_of_eq hkk;have hge:=Nat.le_of_eq hkk.symm;have KK:=Hd hkk;clear hkk)
   ·by_cases hs:z<128
    ·go_wp2;go_ret3
     exact⟨Xfe (HP.out.ok HZ.out hbk.1 hs (Xiy lx.out H0.out H1.out hk2 HZ.out hlt (by omega) hs) (by omega)),rfl⟩
    ·go_wp2;go_round
     case rel=>exact⟨k+1,_,_,by omega,by omega,by go_num,rfl,rfl,(Xl2 H0.out H1.out hk2 HZ.out (by omega)).1,(Xl2 H0.out H1.out hk2 HZ.out (by omega)).2,HP.out.on HZ.out (by omega) (by omega) (by omega) (by omega) (by omega)⟩
     case measure=>simp[intOf];omega
   ·by_cases hz0:z≤0
    ·have hb1:(z==0)=true:=by simp;omega
     go_wp2;go_ret3
     exact⟨Xfe (Xh9 (by omega) (Xif lx.out H0.out H1.out hk2 HZ.out hlt (.inl ⟨by omega,by omega⟩))),rfl⟩
    ·have hb1:(z==0)=false:=by simp;omega
     by_cases hs:z<128
     ·go_wp2;go_ret3
      exact⟨Xfe (HP.out.ok HZ.out hbk.1 hs (Xiy lx.out H0.out H1.out hk2 HZ.out hlt (by omega) hs) (by omega)),rfl⟩
     ·go_wp2;go_round
      case rel=>exact⟨k+1,_,_,by omega,by omega,by go_num,rfl,rfl,(Xl2 H0.out H1.out hk2 HZ.out (by omega)).1,(Xl2 H0.out H1.out hk2 HZ.out (by omega)).2,HP.out.on HZ.out (by omega) (by omega) (by omega) (by omega) (by omega)⟩
      case measure=>simp[intOf];omega
   ·by_cases hz0:z≤0
    ·have hb1:(z==0)=true:=by simp;omega
     go_wp2;go_ret3
     exact⟨Xfe (Xh9 (by omega) (Xif lx.out H0.out H1.out hk2 HZ.out hlt (.inl ⟨by omega,by omega⟩))),rfl⟩
    ·have hb1:(z==0)=false:=by simp;omega
     by_cases hs:z≤3
     ·go_wp2;go_ret3
      have e:=HP.out.ok (v:=p+z % 128*16384) HZ.out hbk.1 (by omega) (Xiy lx.out H0.out H1.out hk2 HZ.out hlt (by omega) (by omega)) (by omega);exact⟨Xfe (by rw[e,show(k:Int)+1=3 by omega]),rfl⟩
     ·go_wp2;go_ret3
      exact⟨Xfe (Xh9 (by omega) (Xif lx.out H0.out H1.out hk2 HZ.out hlt (.inr ⟨by omega,by omega⟩))),rfl⟩
  ·have HK:=Hd (show k=n by omega);go_wp2;go_ret3
   exact⟨Xfe (Xh9 (by omega) (Xrs lx.out H0.out H1.out hk2 HK.out)),rfl⟩
abbrev St:=Except Int (List Int)
def Step{α:Type}(one:List Int→PR α)(s:St)(x:α)(s':St):Prop:=
 match s with
 | .error c=>s'=.error c
 | .ok r=>match one r with
  | .error c=>s'=.error c
  | .ok (y,r')=>x=y∧s'=.ok r'
theorem Step.err{α:Type}{one:List Int→PR α}{c:Int}{x:α}:Step one (.error c) x (.error c):=rfl
theorem Step.fail{α:Type}{one:List Int→PR α}{r:List Int}{c:Int}{x:α}(h:one r=.error c):Step one (.ok r) x (.error c):=by
 unfold Step;simp only[h]
theorem Step.ok{α:Type}{one:List Int→PR α}{r r':List Int}{x:α}(h:one r=.ok (x,r')):Step one (.ok r) x (.ok r'):=by
 unfold Step;simp only[h];trivial
structure TkIn(w:World)(p B:Nat)(zs:List Int)(s:St):Prop where
 is:∃A c,∃k:Nat,∃e:Int,Row w p 232 [.slice A zs.length c,.int .i64 k,.int .i64 e]∧Sees w B A zs.length (bv zs)∧(zs.length≤c∧(A=none→c=0))∧c≤maxLen∧k≤zs.length ∧
  ((s=.ok (zs.drop k)∧e=0)∨(s=.error e∧e≠0))
theorem TkIn.drewN{w:World}{p B:Nat}{zs:List Int}{s:St}(h:TkIn w p B zs s)(n:Nat):TkIn (w.drewN n) p B zs s:=by
 obtain⟨A,c,k,e,hr,hs,h1⟩:=h.is;exact⟨A,c,k,e,hr.drewN n,hs.drewN n,h1⟩
theorem But.drewN{w w':World}{p:Nat}(h:But p w w')(n:Nat):But p w (w'.drewN n):=⟨h.os,h.tape,h.output,h.size,h.block⟩
def Takes{α:Type}(w:World)(p B:Nat)(zs:List Int)(s:St)(one:List Int→PR α)(V:World→Value→α→St→Prop)(e:Ending)(w':World):Prop:=
 ∃x v s',e=.returned v∧V w' v x s'∧Step one s x s'∧TkIn w' p B zs s'∧But p w w'
theorem Xow(p B n:Nat)(zs:List Int)(c:Int)(w:World)(h:TkIn w p B zs (.error c)) :
 Calls Tryz.prog 157 #[.pointer (some ⟨p,0,none⟩),.int .i64 n] w fun e w'=>e=.returned (.slice none 0 0)∧w=w':=by
 obtain⟨A,cc,k,e,hr,hs,h1,h2,h3,h4⟩:=h.is;have he:(e != 0)=true:=by
  rcases h4 with⟨h4,_⟩ | ⟨_,h4⟩
  ·cases h4
  ·simpa using h4
 have c2:w.cell? ⟨p,2,none⟩=some (.int .i64 e):=hr.cell 2;clear hr hs h h4;go_enter Tryz.func157,Tryz.ntmps157
 go_wp2;go_ret;exact⟨rfl,rfl⟩
theorem Xrj(p B n:Nat)(zs r:List Int)(w:World)(h:TkIn w p B zs (.ok r))(hB:B≤p)(hn:r.length<n)(hm:n≤65535) :
 Calls Tryz.prog 157 #[.pointer (some ⟨p,0,none⟩),.int .i64 n] w fun e w'=>e=.returned (.slice none 0 0)∧TkIn w' p B zs (.error 5)∧But p w w':=by
 obtain⟨A,cc,k,e,hr,hs,h1,h2,h3,h4⟩:=h.is;obtain⟨rfl,rfl⟩:r=zs.drop k∧e=0:=by
  rcases h4 with⟨h4,h5⟩ | ⟨h4,_⟩
  ·cases h4;exact⟨rfl,h5⟩
  ·cases h4
 have c0:w.cell? ⟨p,0,none⟩=some (.slice A zs.length cc):=hr.cell 0;have c1:w.cell? ⟨p,1,none⟩=some (.int .i64 k):=hr.cell 1;have c2:w.cell? ⟨p,2,none⟩=some (.int .i64 0):=hr.cell 2;have f2:=hr.frozen 2;have R:=Hd fun q=>(hr.drewN q).set_ 2 (.int .i64 5)
 have S:=Hd fun q=>hs.drewN q
 have T:=Hd fun q=>Xa2 (w.drewN q) ⟨p,2,none⟩ (.int .i64 5)
 rw[List.length_drop]at hn;unfold maxLen at h2;have hlt:(zs.length:Int) - k<n:=by omega
 clear hr hs h h4;go_enter Tryz.func157,Tryz.ntmps157
 go_wp2;go_quiet (fail)
 go_wp2;go_ret;exact⟨rfl,⟨A,cc,k,5,R.out nq,(S.out nq).below ((T.out nq).below hB),h1,by unfold maxLen;omega,h3,.inr ⟨rfl,by omega⟩⟩,((But.refl p w).drewN nq).trans (But.of_turned (T.out nq))⟩
theorem Xpq(p:Nat)(w:World)(hr:Row w p 232 [.slice none 0 0,.int .i64 0,.int .i64 0]) :
 Calls Tryz.prog 157 #[.pointer (some ⟨p,0,none⟩),.int .i64 0] w fun e w'=>e=.returned (.slice none 0 0)∧But p w w'∧Row w' p 232 [.slice none 0 0,.int .i64 0,.int .i64 0]:=by
 have c0:w.cell? ⟨p,0,none⟩=some (.slice none 0 0):=hr.cell 0;have c1:w.cell? ⟨p,1,none⟩=some (.int .i64 0):=hr.cell 1;have c2:w.cell? ⟨p,2,none⟩=some (.int .i64 0):=hr.cell 2;have f1:=hr.frozen 1;have F:Hid (∀q,Row ((w.drewN q).setCell ⟨p,1,none⟩ (.int .i64 0)) p 232 [.slice none 0 0,.int .i64 0,.int .i64 0]∧But p w ((w.drewN q).setCell ⟨p,1,none⟩ (.int .i64 0))):=Hd fun q =>
  ⟨(hr.drewN q).set_ 1 (.int .i64 0),((But.refl p w).drewN q).trans (But.of_turned (Xa2 (w.drewN q) ⟨p,1,none⟩ (.int .i64 0)))⟩
 clear hr;go_enter Tryz.func157,Tryz.ntmps157
 go_wp2;go_quiet (fail)
 go_wp2;obtain⟨hr,hb⟩:=F.out nq;generalize (w.drewN nq).setCell ⟨p,1,none⟩ (.int .i64 0)=W at *;have c0:W.cell? ⟨p,0,none⟩=some (.slice none 0 0):=hr.cell 0;have c1:W.cell? ⟨p,1,none⟩=some (.int .i64 0):=hr.cell 1;have HR:=Hd hr;have HB:=Hd hb;clear hr hb;go_quiet (fail)
 go_wp2;go_ret;exact⟨rfl,HB.out.drewN nq,HR.out.drewN nq⟩
theorem Xqh(p B n:Nat)(zs r:List Int)(w:World)(h:TkIn w p B zs (.ok r))(hB:B≤p)(hn:n≤r.length)(hm:n≤65535) :
 Calls Tryz.prog 157 #[.pointer (some ⟨p,0,none⟩),.int .i64 n] w fun e w'=>∃v,e=.returned v∧OwnB w' w.heap.size v (r.take n)∧TkIn w' p B zs (.ok (r.drop n))∧But p w w':=by
 obtain⟨A,cc,k,e,hr,hs,h1,h2,h3,h4⟩:=h.is;obtain⟨rfl,rfl⟩:r=zs.drop k∧e=0:=by
  rcases h4 with⟨h4,h5⟩ | ⟨h4,_⟩
  ·cases h4;exact⟨rfl,h5⟩
  ·cases h4
 have hp:=hr.lt;rcases A with _ | a
 ·have hz:zs=[]:=by
   rcases zs with _ | ⟨z,r⟩
   ·rfl
   ·obtain⟨a,_,e,_⟩:=hs.at_ (k:=0) (by simp);cases e
  have hcc:cc=0:=h1.2 rfl;subst hz;subst hcc;obtain rfl:k=0:=by simpa using h3
  obtain rfl:n=0:=by simpa using hn
  refine(Xpq p w hr).mono ?_;rintro e w' ⟨rfl,hb,hr'⟩;exact⟨_,rfl,by simpa using OwnB.nil w' w.heap.size,⟨none,0,0,0,hr',Sees.nil _ _ _,h1,h2,h3,.inl ⟨rfl,rfl⟩⟩,hb⟩
 have c0:w.cell? ⟨p,0,none⟩=some (.slice (some a) zs.length cc):=hr.cell 0;have c1:w.cell? ⟨p,1,none⟩=some (.int .i64 k):=hr.cell 1;have c2:w.cell? ⟨p,2,none⟩=some (.int .i64 0):=hr.cell 2;have f1:=hr.frozen 1;rw[List.length_drop]at hn;have hlt:¬((zs.length:Int) - k<n):=by omega
 have F:∀q,TkIn ((w.drewN q).setCell ⟨p,1,none⟩ (.int .i64 (k+n))) p B zs (.ok ((zs.drop k).drop n))∧But p w ((w.drewN q).setCell ⟨p,1,none⟩ (.int .i64 (k+n))):=fun q=>by
  have T:=Xa2 (w.drewN q) ⟨p,1,none⟩ (.int .i64 (k+n));refine⟨⟨some a,cc,k+n,0,?_,(hs.drewN q).below (T.below hB),h1,h2,by omega,.inl ⟨by rw[List.drop_drop],rfl⟩⟩,((But.refl p w).drewN q).trans (But.of_turned T)⟩;have:=(hr.drewN q).set_ 1 (.int .i64 (k+n));simpa using this
 have HF:=Hd F;have HC:Hid (∀q,((w.drewN q).setCell ⟨p,1,none⟩ (.int .i64 ((k:Int)+n))).cell? ⟨p,1,none⟩=some (.int .i64 (k+n))):=Hd fun q=>((hr.drewN q).set_ 1 (.int .i64 ((k:Int)+n))).cell 1
 have HS:=Hd hs;have H2:=Hd h2;unfold maxLen at h2;have hk0:(0:Int)≤k:=by omega
 have hk1:(k:Int)≤k+n:=by omega
 have hk2:(k:Int)+n≤cc:=by omega
 have ek:(k:Int)+n - n=k:=by omega
 have hk3:(0:Int)≤(k:Int)+n:=by omega
 have hk4:((k:Int)+n).toNat=k+n:=by omega
 have HWR:Hid (IntKind.i64.wrap (k:Int)=k):=Hd (by rw[IntKind.wrap_i64];omega);clear hr hs h h4 F;go_enter Tryz.func157,Tryz.ntmps157
 go_wp2_with fail;go_quiet (fail)
 go_wp2_with fail;obtain⟨ht,hb⟩:=HF.out nq;have d0:((w.drewN nq).setCell ⟨p,1,none⟩ (.int .i64 ((k:Int)+n))).cell? ⟨p,0,none⟩=some (.slice (some a) zs.length cc):=by
  obtain⟨A',cc',k',e',hr,-⟩:=ht.is;rw[World.cell?_setCell_other _ _ _ _ (by simp)];exact c0
 have d1:((w.drewN nq).setCell ⟨p,1,none⟩ (.int .i64 ((k:Int)+n))).cell? ⟨p,1,none⟩=some (.int .i64 (k+n)):=HC.out nq;have hs:Sees ((w.drewN nq).setCell ⟨p,1,none⟩ (.int .i64 ((k:Int)+n))) B (some a) zs.length (bv zs):=(HS.out.drewN nq).below ((Xa2 (w.drewN nq) ⟨p,1,none⟩ (.int .i64 (k+n))).below hB);have hb':=hb;generalize (w.drewN nq).setCell ⟨p,1,none⟩ (.int .i64 ((k:Int)+n))=W at *;have HB:=Hd hb;have HT:=Hd ht;have e1:W.drew.cell? ⟨p,0,none⟩=some (.slice (some a) zs.length cc):=d0;have e2:W.drew.cell? ⟨p,1,none⟩=some (.int .i64 (k+n)):=d1;have hsz:=hb.size;have FIN:Hid (∀v2 w2,w2.ownsRow w.heap.size 5 1 v2 (0+n) ([]++bv ((zs.drop k).take n))→W.drew.grownBy w2 (Value.slice none 0 0).ownBlock→OwnB w2 w.heap.size v2 ((zs.drop k).take n)∧TkIn w2 p B zs (.ok ((zs.drop k).drop n))∧But p w w2):=Hd fun v2 w2 ho hg=>by
  have hb2:Below W.heap.size W w2:=(Br _ _).trans ⟨hg.os,hg.tape,hg.output,hg.size,fun q hq=>hg.block q hq (fun e=>by cases e)⟩;refine⟨?_,?_,HB.out.trans (But.of_below hb2 p)⟩
  ·unfold OwnB;have hl:((zs.drop k).take n).length=n:=by rw[List.length_take,List.length_drop];omega
   rw[hl];simpa using ho
  ·obtain⟨A',cc',k',e',r1,r2,r3⟩:=HT.out.is;have hlt:=r1.lt;exact⟨A',cc',k',e',r1.below hb2 r1.lt,r2.below (hb2.mono (by omega)),r3⟩
 ·by_cases hck:cc=k
  ·subst hck;obtain rfl:n=0:=by omega
   have hnil:Sees W.drew B (some a) 0 (bv ((zs.drop cc).take 0)):=Sees.nil _ _ _;have hwr:=HWR.out;obtain⟨i0,hi,hz0,hz1,hz2⟩:=info_parts Xb3;go_region_held2 (fun w'=>w'.cell? ⟨p,0,none⟩=some (.slice (some a) zs.length cc)∧w'.cell? ⟨p,1,none⟩=some (.int .i64 cc)) (go_keep) ((rw[if_pos (by kernel_rfl)];refine Xam (.const (.slice none 0 0)) (.tmp 48) rfl Tryz.underlying22 hi hz0 hz1 hz2 rfl rfl (World.ownsRow_nil _ w.heap.size _ _) rfl hnil (Xae _) (by unfold maxLen;omega) (by omega) (by simp;omega) ?_;intro v2 w2 hown2 hg2 hat2;have k1:=(World.cell?_of_block (hg2.block p (by simp;omega) (fun e=>by cases e))).trans e1;have k2:=(World.cell?_of_block (hg2.block p (by simp;omega) (fun e=>by cases e))).trans e2))
   go_wp2;go_ret;exact⟨v2,rfl,FIN.out v2 w2 hown2 hg2⟩
  ·have hck':¬(cc:Int)=k:=by omega
   have hkk:(k:Int)<cc:=by omega
   have hn0:(0:Int)≤n:=by omega
   have hsrc:Sees W B (some (a.add k)) n (bv ((zs.drop k).take n)):=⟨by rw[bL,List.length_take,List.length_drop];omega,fun i u hu=>by
    have hi:=(List.getElem?_eq_some_iff.1 hu).1;rw[bL,List.length_take,List.length_drop]at hi;rw[bv_getElem?,List.getElem?_take_of_lt (by omega),List.getElem?_drop,←bv_getElem?]at hu;obtain⟨a',e,hb,hc⟩:=hs.cell _ u hu;cases e
    exact⟨_,rfl,by rw[Xa7];exact hb,by rw[Xbr];exact hc⟩⟩
   have hwr:=HWR.out;obtain⟨i0,hi,hz0,hz1,hz2⟩:=info_parts Xb3;go_region_held2 (fun w'=>w'.cell? ⟨p,0,none⟩=some (.slice (some a) zs.length cc)∧w'.cell? ⟨p,1,none⟩=some (.int .i64 (k+n))) (go_keep) ((rw[if_pos (by kernel_rfl)];refine Xam (.const (.slice none 0 0)) (.tmp 48) rfl Tryz.underlying22 hi hz0 hz1 hz2 rfl rfl (World.ownsRow_nil _ w.heap.size _ _) rfl hsrc.drew (Xae _) (by unfold maxLen;omega) (by omega) (by simp;omega) ?_;intro v2 w2 hown2 hg2 hat2;have k1:=(World.cell?_of_block (hg2.block p (by simp;omega) (fun e=>by cases e))).trans e1;have k2:=(World.cell?_of_block (hg2.block p (by simp;omega) (fun e=>by cases e))).trans e2))
   go_wp2;go_ret;exact⟨v2,rfl,FIN.out v2 w2 hown2 hg2⟩
theorem TkIn.lt{w:World}{p B:Nat}{zs:List Int}{s:St}(h:TkIn w p B zs s):p<w.heap.size:=by
 obtain⟨A,c,k,e,hr,_⟩:=h.is;exact hr.lt
theorem TkIn.left{w:World}{p B:Nat}{zs r:List Int}(h:TkIn w p B zs (.ok r)):Left zs r:=by
 obtain⟨A,c,k,e,_,_,_,_,_,h4⟩:=h.is;rcases h4 with⟨h4,_⟩ | ⟨h4,_⟩
 ·cases h4;exact⟨k,rfl⟩
 ·cases h4
theorem TkIn.below{w w':World}{p B:Nat}{zs:List Int}{s:St}(h:TkIn w p B zs s)(hb:Below w.heap.size w w')(hB:B≤p):TkIn w' p B zs s:=by
 obtain⟨A,c,k,e,hr,hs,h1⟩:=h.is;have:=hr.lt;exact⟨A,c,k,e,hr.below hb hr.lt,hs.below (hb.mono (by omega)),h1⟩
theorem TkIn.turned{w w':World}{p B g:Nat}{zs:List Int}{s:St}(h:TkIn w p B zs s)(ht:Turned w w' g)(hg:g≠p)(hB:B≤g):TkIn w' p B zs s:=by
 obtain⟨A,c,k,e,hr,hs,h1⟩:=h.is;exact⟨A,c,k,e,ht.row hr (fun e=>hg e.symm),hs.below (ht.below hB),h1⟩
theorem TkIn.grown{w w':World}{p B:Nat}{zs:List Int}{s:St}{row:Option Nat}(h:TkIn w p B zs s)(hg:w.grownBy w' row)(hp:some p≠row)(hB:∀k,row=some k→B≤k)(hBp:B≤p):TkIn w' p B zs s:=by
 obtain⟨A,c,k,e,hr,hs,h1⟩:=h.is;have:=hr.lt;exact⟨A,c,k,e,hr.grown hg hp,hs.below ((Br B w).grown hg (by omega) hB),h1⟩
def BytesV(lo:Nat)(w:World)(v:Value)(l:List Int)(s':St):Prop:=OwnB w lo v l∧l.length≤65535∧∀c,s'=.error c→l=[]
def ByteV(_:World)(v:Value)(x:Int)(s':St):Prop:=v=.int .u8 x∧IsByte x∧∀c,s'=.error c→x=0
def ShortV(_:World)(v:Value)(x:Nat)(_:St):Prop:=v=.int .i64 x∧x≤65535
def Key3V(_:World)(v:Value)(x:List Int)(_:St):Prop:=v=.agg (bv x).toArray∧x.length=32
theorem Xdx(p B n:Nat)(zs:List Int)(s:St)(w:World)(h:TkIn w p B zs s)(hB:B≤p)(hm:n≤65535) :
 Calls Tryz.prog 157 #[.pointer (some ⟨p,0,none⟩),.int .i64 n] w (Takes w p B zs s (pTake n) (BytesV w.heap.size)):=by
 match s,h with
 | .error c,h =>
  refine(Xow p B n zs c w h).mono ?_;rintro e w' ⟨rfl,rfl⟩;exact⟨[],_,_,rfl,⟨OwnB.nil _ _,by simp,fun _ _=>rfl⟩,Step.err,h,But.refl _ _⟩
 | .ok r,h =>
  by_cases hn:r.length<n
  ·refine(Xrj p B n zs r w h hB hn hm).mono ?_;rintro e w' ⟨rfl,h1,h2⟩;exact⟨[],_,_,rfl,⟨OwnB.nil _ _,by simp,fun _ _=>rfl⟩,Step.fail (if_pos hn),h1,h2⟩
  ·refine(Xqh p B n zs r w h hB (by omega) hm).mono ?_;rintro e w' ⟨v,rfl,h0,h1,h2⟩;exact⟨_,_,_,rfl,⟨h0,by rw[List.length_take];omega,fun c e=>by cases e⟩,Step.ok (if_neg hn),h1,h2⟩
theorem Xu0{s s':St}{l:List Int}(h:Step (pTake 1) s l s')(hl:l=[]):Step pOctet s 0 s'∧∀r,s'≠.ok r:=by
 subst hl;match s,h with
 | .error c,h=>exact⟨h,fun r e=>by rw[show s'=.error c from h]at e;cases e⟩
 | .ok [],h =>
  have h':s'=.error 5:=h;exact⟨h',fun r e=>by rw[h']at e;cases e⟩
 | .ok (z::r),h =>
  have h':[]=[z]∧s'=.ok r:=h;cases h'.1
theorem Xuk{s s':St}{x:Int}{l:List Int}(h:Step (pTake 1) s (x::l) s')(hs:∀c,s'≠.error c):Step pOctet s x s'∧∃r,s=.ok (x::r):=by
 match s,h with
 | .error c,h=>exact absurd h (hs c)
 | .ok [],h=>exact absurd (show s'=.error 5 from h) (hs 5)
 | .ok (z::r),h =>
  have h':x::l=[z]∧s'=.ok r:=h;injection h'.1 with h1 h2
  subst h1;exact⟨⟨rfl,h'.2⟩,r,rfl⟩
theorem Xdq(p B:Nat)(zs:List Int)(s:St)(w:World)(h:TkIn w p B zs s)(hB:B≤p)(hz:AllBytes zs) :
 Calls Tryz.prog 154 #[.pointer (some ⟨p,0,none⟩)] w (Takes w p B zs s pOctet ByteV):=by
 have H:=Hd (Xdx p B 1 zs s w h hB (by omega));have HL:Hid (∀r,s=.ok r→Left zs r):=Hd fun r e=>by subst e;exact h.left
 have hp:=h.lt;clear h;go_enter Tryz.func154,Tryz.ntmps154
 go_wp2_with fail;refine H.out.mono ?_;rintro e w1 ⟨l,v,s',rfl,⟨ho,hl,hne⟩,hs,ht,hb⟩;have HS:=Hd hs;have HT:=Hd ht;have HB:=Hd hb;obtain⟨A,c,rfl⟩:=ho.form;have hsee:=ho.sees;have HO:=Hd ho;have HNE:=Hd hne;obtain⟨n,hn⟩:∃n,l.length=n:=⟨_,rfl⟩;have HN:=Hd hn;rw[hn]at hsee ⊢;clear hs ht hb ho H hn hne;by_cases h0:n=0
 ·have h0':((n:Int)==0)=true:=by simp[h0]
  have H0:=Hd h0;clear h0 hsee;go_wp2_with fail;go_ret;have hnil:l=[]:=List.length_eq_zero_iff.1 (by rw[HN.out,H0.out]);exact⟨0,_,s',rfl,⟨rfl,by unfold IsByte;omega,fun _ _=>rfl⟩,(Xu0 HS.out hnil).1,HT.out,HB.out⟩
 ·have h0':((n:Int)==0)=false:=by simp;omega
  have hpos:0<n:=by omega
  obtain⟨a,rfl,hab,hc⟩:=hsee.byte (k:=0) hpos;have c0:w1.cell? a=some (.int .u8 (l.getD 0 0)):=hc;obtain⟨x,hx⟩:∃x,l.getD 0 0=x:=⟨_,rfl⟩;have HX:=Hd hx;rw[hx]at c0;clear h0 hsee hc hx;go_wp2_with fail;go_ret;rcases l with _ | ⟨y,l⟩
  ·have:=HN.out;simp at this;omega
  ·obtain rfl:y=x:=HX.out;have hok:∀c,s'≠.error c:=fun c e=>by cases HNE.out c e
   obtain⟨h1,r,rfl⟩:=Xuk HS.out hok;exact⟨y,_,s',rfl,⟨rfl,((HL.out _ rfl).bytes hz) y (by simp),fun c e=>absurd e (hok c)⟩,h1,HT.out,HB.out⟩
theorem Xcj(p B:Nat)(zs:List Int)(s:St)(w:World)(h:TkIn w p B zs s)(hB:B≤p)(hz:AllBytes zs) :
 Calls Tryz.prog 155 #[.pointer (some ⟨p,0,none⟩)] w (Takes w p B zs s pShort ShortV):=by
 obtain⟨A,cc,k,e,hr,hs,⟨h1,h0⟩,h2,h3,h4⟩:=h.is;have c0:w.cell? ⟨p,0,none⟩=some (.slice A zs.length cc):=hr.cell 0;have c1:w.cell? ⟨p,1,none⟩=some (.int .i64 k):=hr.cell 1;have c2:w.cell? ⟨p,2,none⟩=some (.int .i64 e):=hr.cell 2;have hp:=hr.lt;rcases h4 with⟨rfl,rfl⟩ | ⟨rfl,he⟩
 ·have hz':=hz.drop k;have f1:=hr.frozen 1;have f2:=hr.frozen 2;have F:∀W:World,Row W p 232 [.slice A zs.length cc,.int .i64 k,.int .i64 0]→Sees W B A zs.length (bv zs)→But p w W →
   ∀e:Ending,e=.returned (.int .i64 (getS (zs.drop k)).1)→Takes w p B zs (.ok (zs.drop k)) pShort ShortV e ((W.setCell ⟨p,2,none⟩ (.int .i64 (getS (zs.drop k)).2.2)).setCell ⟨p,1,none⟩ (.int .i64 (k+(getS (zs.drop k)).2.1))):=by
   rintro W hr hs hb e rfl;have T2:=Xa2 W ⟨p,2,none⟩ (.int .i64 (getS (zs.drop k)).2.2);have T1:=Xa2 (W.setCell ⟨p,2,none⟩ (.int .i64 (getS (zs.drop k)).2.2)) ⟨p,1,none⟩ (.int .i64 (k+(getS (zs.drop k)).2.1));have r1:=(hr.set_ 2 (.int .i64 (getS (zs.drop k)).2.2)).set_ 1 (.int .i64 (k+(getS (zs.drop k)).2.1));have s1:=(hs.below (T2.below hB)).below (T1.below hB);have b1:=(hb.trans (But.of_turned T2)).trans (But.of_turned T1);rcases Xdd _ hz' with(hg | hg) | ⟨n,j,hg,hn,hj1,hj⟩
   ·rw[hg]at r1 s1 b1 ⊢;refine⟨0,_,.error 4,rfl,⟨rfl,by omega⟩,Step.fail (by unfold pShort;rw[hg];rfl),⟨A,cc,k,4,by simpa using r1,s1,⟨h1,h0⟩,h2,h3,.inr ⟨rfl,by omega⟩⟩,b1⟩
   ·rw[hg]at r1 s1 b1 ⊢;refine⟨0,_,.error 5,rfl,⟨rfl,by omega⟩,Step.fail (by unfold pShort;rw[hg];rfl),⟨A,cc,k,5,by simpa using r1,s1,⟨h1,h0⟩,h2,h3,.inr ⟨rfl,by omega⟩⟩,b1⟩
   ·rw[hg]at r1 s1 b1 ⊢;rw[List.length_drop]at hj;refine⟨n,_,.ok ((zs.drop k).drop j),rfl,⟨rfl,hn⟩,Step.ok (by unfold pShort;rw[hg];exact if_pos rfl),⟨A,cc,k+j,0,by simpa using r1,s1,⟨h1,h0⟩,h2,by omega,.inl ⟨by rw[List.drop_drop],rfl⟩⟩,b1⟩
  have HF:=Hd F;have HR:=Hd hr;have HS:=Hd hs;have HBY:=Hd hz'.bytes;have hkk:(k:Int)≤zs.length:=by omega
  have hkc:(k:Int)≤cc:=by omega
  obtain⟨x1,hx1⟩:∃x,(getS (zs.drop k)).1=x:=⟨_,rfl⟩;obtain⟨x2,hx2⟩:∃x,(getS (zs.drop k)).2.1=x:=⟨_,rfl⟩;obtain⟨x3,hx3⟩:∃x,(getS (zs.drop k)).2.2=x:=⟨_,rfl⟩;have hb2:0≤x2∧(k:Int)+x2≤cc:=by
   rw[←hx2];rcases Xdd _ hz' with(hg | hg) | ⟨n,j,hg,hn,hj1,hj⟩
   ·rw[hg];simp;omega
   ·rw[hg];simp;omega
   ·rw[hg];rw[List.length_drop]at hj;simp;omega
  obtain⟨hb2,hb3⟩:=hb2;have HX:Hid ((getS (zs.drop k)).1=x1∧(getS (zs.drop k)).2.1=x2∧(getS (zs.drop k)).2.2=x3):=Hd ⟨hx1,hx2,hx3⟩;rw[hx1,hx2,hx3]at HF;clear hr hs h F hx1 hx2 hx3 hz';unfold maxLen at h2;by_cases hck:cc=k
  ·have hzl:zs.length - k=0:=by omega
   have hd:zs.drop k=[]:=List.drop_eq_nil_of_le (by omega);have HBY':=HBY.out;have HX':=HX.out;rw[hd]at HBY' HX';have HG:Hid (∀q,Calls Tryz.prog 139 #[.slice A 0 0] (w.drewN q) fun e w'=>e=.returned (.tuple #[.int .i64 x1,.int .i64 x2,.int .i64 x3])∧w'=w.drewN q):=Hd fun q=>by
    refine(Xfb A 0 0 [] (w.drewN q) B (Sees.nil _ _ _) (by unfold maxLen;omega) HBY').mono ?_;rintro e w' ⟨rfl,rfl⟩;exact⟨by rw[HX'.1,HX'.2.1,HX'.2.2],rfl⟩
   clear HBY' HX' hd;subst hck;go_enter Tryz.func155,Tryz.ntmps155
   go_wp2_with fail;go_quiet (first | (go_at_call 139;with_reducible refine Calls.quiet_of_same (HG.out _)))
   go_wp2_with fail;go_ret;exact HF.out (w.drewN nq) (HR.out.drewN nq) (HS.out.drewN nq) ((But.refl p w).drewN nq) _ rfl
  ·rcases A with _ | a
   ·exact absurd (h0 rfl) (by omega)
   have hck':¬(cc:Int)=k:=by omega
   have hsee:Sees w B (some (a.add k)) (zs.length - k) (bv (zs.drop k)):=⟨by rw[bL,List.length_drop],fun i u hu=>by
    rw[bv_getElem?,List.getElem?_drop,←bv_getElem?]at hu;obtain⟨a',e,hb,hc⟩:=HS.out.cell _ u hu;cases e
    exact⟨_,rfl,by rw[Xa7];exact hb,by rw[Xbr];exact hc⟩⟩
   have HG:Hid (∀q,Calls Tryz.prog 139 #[.slice (some (a.add k)) (zs.length - k) (cc - k)] (w.drewN q) fun e w'=>e=.returned (.tuple #[.int .i64 x1,.int .i64 x2,.int .i64 x3])∧w'=w.drewN q):=Hd fun q=>by
    refine(Xfb (some (a.add k)) (zs.length - k) (cc - k) (zs.drop k) (w.drewN q) B (hsee.drewN q) (by unfold maxLen;omega) HBY.out).mono ?_;rintro e w' ⟨rfl,rfl⟩;exact⟨by rw[HX.out.1,HX.out.2.1,HX.out.2.2],rfl⟩
   clear hsee;go_enter Tryz.func155,Tryz.ntmps155
   go_wp2_with fail;go_quiet (first | (go_at_call 139;with_reducible refine Calls.quiet_of_same (HG.out _)))
   go_wp2_with fail;go_ret;exact HF.out (w.drewN nq) (HR.out.drewN nq) (HS.out.drewN nq) ((But.refl p w).drewN nq) _ rfl
 ·have he':(e != 0)=true:=by simpa using he
  have H:=Hd h;clear hr hs h he;go_enter Tryz.func155,Tryz.ntmps155
  go_wp2_with fail;go_ret;exact⟨0,_,_,rfl,⟨rfl,by omega⟩,Step.err,H.out,But.refl _ _⟩
theorem Step.any{α:Type}{one:List Int→PR α}{s:St}{x y:α}{c:Int}(h:Step one s x (.error c)):Step one s y (.error c):=by
 match s,h with
 | .error c',h=>exact h
 | .ok r,h =>
  unfold Step at h ⊢;simp only at h ⊢;split at h
  ·exact h
  ·obtain⟨_,h⟩:=h;cases h
theorem Xn5{n:Nat}{s s':St}{l:List Int}(h:Step (pTake n) s l s'):(∃c,s'=.error c)∨l.length=n:=by
 match s,h with
 | .error c,h=>exact .inl ⟨c,h⟩
 | .ok r,h =>
  unfold Step pTake at h;by_cases hn:r.length<n
  ·simp only[if_pos hn]at h;exact .inl ⟨_,h⟩
  ·simp only[if_neg hn]at h;right
   rw[h.1,List.length_take];omega
def keyOf(l:List Int):List Int:=if l=[]then zero32 else l
theorem Xor{l:List Int}(h:l=[]∨l.length=32):splice (zeros 32) 0 (bv l)=bv (keyOf l):=by
 rcases h with rfl | h
 ·rfl
 ·unfold splice keyOf;rw[bL,h];rw[if_neg (fun e=>by rw[e]at h;cases h)];simp[zeros]
theorem Xr8{l:List Int}(h:l=[]∨l.length=32):(keyOf l).length=32:=by
 unfold keyOf;split
 ·rfl
 ·rcases h with h | h
  ·contradiction
  ·exact h
theorem tkey_(p B:Nat)(zs:List Int)(s:St)(w:World)(h:TkIn w p B zs s)(hB:B≤p) :
 Calls Tryz.prog 156 #[.pointer (some ⟨p,0,none⟩)] w (Takes w p B zs s (pTake 32) Key3V):=by
 have hp:=h.lt;have HR:=Hd h;clear h;go_enter Tryz.func156,Tryz.ntmps156
 go_wp2_with fail;rw[Xmi];have hb0:But p w ((w.alloc (.cells (zeros 32).toArray 35)).alloc (.cells (zeros 32).toArray 35)):=((But.refl p w).alloc _).alloc _;have ht0:TkIn ((w.alloc (.cells (zeros 32).toArray 35)).alloc (.cells (zeros 32).toArray 35)) p B zs s:=HR.out.below (((Br _ _).alloc (Lr _) _).alloc (by simp) _) hB;have hr0:Row ((w.alloc (.cells (zeros 32).toArray 35)).alloc (.cells (zeros 32).toArray 35)) w.heap.size 35 (zeros 32):=(Row.new w _ _).alloc _;have hr1:Row ((w.alloc (.cells (zeros 32).toArray 35)).alloc (.cells (zeros 32).toArray 35)) (w.heap.size+1) 35 (zeros 32):=Row.new' _ _ _ (by simp);have hz0:w.heap.size+2=((w.alloc (.cells (zeros 32).toArray 35)).alloc (.cells (zeros 32).toArray 35)).heap.size:=by simp
 generalize (w.alloc (.cells (zeros 32).toArray 35)).alloc (.cells (zeros 32).toArray 35)=W at *;refine wp_region_any (by kernel_rfl) ?_;try(change wpAny _ _ _ _ _ _ _ (World.drew _))
 refine wpAny_take (i:=0) (v:=?_) rfl (by kernel_rfl) (by kernel_rfl) (by kernel_rfl) (fun _ _ _ h=>h) (Or.inl ⟨by rfl,?_⟩) ?_;rotate_left
 ·intro w;go_simp;try with_reducible rfl
 refine wpAny_take (i:=1) (v:=?_) rfl (by kernel_rfl) (by kernel_rfl) (by kernel_rfl) (fun _ _ _ h=>h) (Or.inl ⟨by rfl,?_⟩) ?_;rotate_left
 ·intro w;go_simp;try with_reducible rfl
 refine wpAny_ready (rs:=[2]) (by kernel_rfl) (by simp) ?_;refine AllReady.cons rfl (fun K hK=>?_) AllReady.nil;go_simp;refine(Xdx p B 32 zs s W.drew (ht0.drewN 1) hB (by omega)).mono ?_;rintro e w1 ⟨l,v,s',rfl,⟨ho,-,hne⟩,hs,ht,hb⟩;obtain⟨A,c,rfl⟩:=ho.form;have hl:l=[]∨l.length=32:=by
  rcases Xn5 hs with⟨c,hc⟩ | hl
  ·exact .inl (hne c hc)
  ·exact .inr hl
 have hS:Step (pTake 32) s (keyOf l) s':=by
  unfold keyOf;split
  ·rename_i h0
   subst h0;rcases Xn5 hs with⟨c,hc⟩ | hl
   ·subst hc;exact hs.any
   ·cases hl
  ·exact hs
 have hsee:=ho.sees;simp only[];refine hK _ _ ?_;have hb1:But p w w1:=(hb0.drewN 1).trans hb;have hr10:Row w1 w.heap.size 35 (zeros 32):=hb.row hr0.drew (Nat.ne_of_gt hp);have hr11:Row w1 (w.heap.size+1) 35 (zeros 32):=hb.row hr1.drew (by omega);have hlt11:=hr11.lt;clear hK K hb;refine wpAny_ready (rs:=[3]) (by kernel_rfl) (by simp) ?_;refine AllReady.cons rfl (fun K hK=>?_) AllReady.nil;refine step_copy_splice rfl (.tmp 4) (.tmp 6) 22 22 rfl 5 Tryz.underlying22 Xcp (some ⟨w.heap.size+1,0,none⟩) A 32 32 l.length c ?_ ?_ (w.heap.size+1) 0 (zeros 32) 35 hr11.is (bv l) ?_ ?_ ?_ (Xae _) (w.heap.size+1) w1 (Br _ _) (Lr _) ?_
 ·go_simp
 ·go_simp
 ·rw[bL];rcases hl with rfl | hl
  ·rfl
  ·rw[hl];rfl
 ·intro hpos;rw[bL]at hpos;obtain⟨a,_,e,_⟩:=hsee.at_ (k:=0) (by omega);refine⟨rfl,a,e,fun j v hv=>?_⟩;obtain⟨_,e',_,hc⟩:=hsee.cell j v hv;rw[e]at e';cases e'
  exact hc
 ·rw[bL];simp[zeros];rcases hl with rfl | hl
  ·simp
  ·omega
 intro w2 h2 hb2;have hr2:Row w2 (w.heap.size+1) 35 (bv (keyOf l)):=⟨by
  rw[h2.out,Xor hl]⟩
 refine hK _ _ ?_;clear hK K;refine wpAny_done (by kernel_rfl) ?_ _;have hr20:Row w2 w.heap.size 35 (zeros 32):=hr10.below hb2 (by omega);have hrd2:TkIn w2 p B zs s':=by
  obtain⟨A',cc,k,e,q1,q2,q3⟩:=ht.is;exact⟨A',cc,k,e,q1.below hb2 (by omega),q2.below (hb2.mono (by omega)),q3⟩
 have hbw2:But p w w2:=⟨hb2.os.trans hb1.os,hb2.tape.trans hb1.tape,hb2.output.trans hb1.output,Lq hb1.size hb2.size,fun k hk hne=>(hb2.block k (by omega)).trans (hb1.block k hk hne)⟩;have hlk:=Xr8 hl;have HR2:=Hd hr2;have HR20:=Hd hr20;have HRD:=Hd hrd2;have HBW:=Hd hbw2;have hz:(Tryz.prog.info? 35).map (·.size)=some (bv (keyOf l)).length:=by rw[bL,hlk];kernel_rfl
 have HZ:=Hd hz;have HLK:=Hd hlk;have HSS:=Hd hS;clear hr2 hr20 hrd2 hbw2 hb2 h2 hr1 hr0 hr10 hr11 hb1 hz hs ht hlt11 hsee ho hl hlk hS hne hz0 hb0 ht0;go_wp2_with (first
  | (with_reducible show wpList _ _ _ (⟨some 8,_,_,_,_,_⟩::_) _ _;go_must(refine Xa0 rfl 35 (.tmp 3) rfl (w.heap.size+1) 35 (bv (keyOf l)) _ Tryz.underlying35 rfl HZ.out HR2.out ?_ ?_;go_simp))
  | (with_reducible show wpList _ _ _ (⟨none,Op.store 35 _ _,_,_,_,_⟩::_) _ _;go_must(refine Xa4 rfl 35 (.tmp 2) (.tmp 8) rfl w.heap.size (zeros 32) (bv (keyOf l)) HR20.out HZ.out (by rw[bL,HLK.out];simp[zeros]) (Xae _) ?_ ?_ ?_;go_simp;go_simp;intro w3 hr3 ht3;have HR3:=Hd hr3;have HT3:=Hd ht3;clear hr3 ht3)))
 refine bodyPost_ret (results_cell_row (h:=rfl) _ w3 w.heap.size 35 (bv (keyOf l)).toArray (0,0) _ (by rfl) HR3.out.is Tryz.underlying35 rfl (by simpa using HZ.out)) rfl ?_;refine⟨keyOf l,_,s',rfl,⟨rfl,HLK.out⟩,HSS.out,HRD.out.turned HT3.out (by omega) (by omega),HBW.out.turned HT3.out (Lr _)⟩
theorem take1(zs:List Int)(h:1≤zs.length):zs.take 1=[zs.getD 0 0]:=by
 match zs,h with
 | a::r,_=>simp
theorem take2(zs:List Int)(h:2≤zs.length):zs.take 2=[zs.getD 0 0,zs.getD 1 0]:=by
 match zs,h with
 | a::b::r,_=>simp
theorem take3(zs:List Int)(h:3≤zs.length):zs.take 3=[zs.getD 0 0,zs.getD 1 0,zs.getD 2 0]:=by
 match zs,h with
 | a::b::c::r,_=>simp
theorem Xiw{zs:List Int}(hz:AllBytes zs){n:Nat}{r:List Int}(h:pShort zs=.ok (n,r)):zs=short n++r∧n≤65535:=by
 have hb:=hz.bytes;have h0:=hb 0;have h1:=hb 1;have h2:=hb 2;unfold pShort at h;rcases Xhj zs hb with(hm | hm) | ⟨hm,hl,ha⟩ | ⟨hm,hl,ha,hc,hd⟩ | ⟨hm,hl,ha,hc,hd,he⟩
 ·simp[getS,hm]at h
 ·simp[getS,hm]at h
 ·have e:getS zs=(zs.getD 0 0,1,0):=by simp[getS,hm]
  rw[e]at h;simp only[if_true]at h;cases h
  refine⟨?_,by omega⟩;have e2:short ((zs.getD 0 0).toNat:Int)=zs.take 1:=by
   rw[take1 zs hl,Int.toNat_of_nonneg (by omega)];simp only[short];rw[if_pos ha]
  rw[e2];exact(List.take_append_drop 1 zs).symm
 ·have e:getS zs=(zs.getD 0 0 - 128+128*zs.getD 1 0,2,0):=by simp[getS,hm]
  rw[e]at h;simp only[if_true]at h;cases h
  refine⟨?_,by omega⟩;have e2:short ((zs.getD 0 0 - 128+128*zs.getD 1 0).toNat:Int)=zs.take 2:=by
   rw[take2 zs hl,Int.toNat_of_nonneg (by omega)];simp only[short];rw[if_neg (by omega),if_pos (by omega),show(zs.getD 0 0 - 128+128*zs.getD 1 0) % 128+128=zs.getD 0 0 by omega,show(zs.getD 0 0 - 128+128*zs.getD 1 0) / 128=zs.getD 1 0 by omega]
  rw[e2];exact(List.take_append_drop 2 zs).symm
 ·have e:getS zs=(zs.getD 0 0 - 128+128*(zs.getD 1 0 - 128)+16384*zs.getD 2 0,3,0):=by simp[getS,hm]
  rw[e]at h;simp only[if_true]at h;cases h
  refine⟨?_,by omega⟩;have e2:short ((zs.getD 0 0 - 128+128*(zs.getD 1 0 - 128)+16384*zs.getD 2 0).toNat:Int)=zs.take 3:=by
   rw[take3 zs hl,Int.toNat_of_nonneg (by omega)];generalize zs.getD 0 0=x at *;generalize zs.getD 1 0=y at *;generalize zs.getD 2 0=z at *;simp only[short];rw[if_neg (by omega),if_neg (by omega),show(x - 128+128*(y - 128)+16384*z) % 128+128=x by omega,show(x - 128+128*(y - 128)+16384*z) / 128 % 128+128=y by omega,show(x - 128+128*(y - 128)+16384*z) / 16384=z by omega]
  rw[e2];exact(List.take_append_drop 3 zs).symm
theorem Xp6{zs:List Int}(hz:AllBytes zs){c:Int}(h:pShort zs=.error c):c=4∨c=5:=by
 unfold pShort at h;rcases Xdd zs hz with(e | e) | ⟨n,k,e,_⟩ <;> rw[e]at h <;> simp at h <;> simp[h.symm]
def Got{α:Type}(f:α→List Int)(P:α→Prop)(one:List Int→PR α):Prop:=∀zs x r,AllBytes zs→one zs=.ok (x,r)→zs=f x++r∧P x
def Errs{α:Type}(one:List Int→PR α):Prop:=∀zs c,AllBytes zs→one zs=.error c→c=4∨c=5
theorem Xby:Got (fun z=>[z]) IsByte pOctet:=by
 intro zs x r hz h;match zs,h with
 | z::r',h=>cases h;exact⟨rfl,hz _ (by simp)⟩
theorem Xe5:Errs pOctet:=by
 intro zs c hz h;match zs,h with
 | [],h=>cases h;exact .inr rfl
theorem Xdn(n:Nat):Got (fun l=>l) (fun l=>l.length=n∧AllBytes l) (pTake n):=by
 intro zs x r hz h;unfold pTake at h;split at h
 ·cases h
 ·cases h
  exact⟨(List.take_append_drop n zs).symm,by simp;omega,hz.take n⟩
theorem Xh4(n:Nat):Errs (pTake n):=by
 intro zs c hz h;unfold pTake at h;split at h
 ·cases h;exact .inr rfl
 ·cases h
section
variable{α:Type}{f:α→List Int}{P:α→Prop}{one:List Int→PR α}
theorem Xk8(h1:Got f P one):∀n zs l r,AllBytes zs→pMany one n zs=.ok (l,r)→zs=l.flatMap f++r∧l.length=n∧∀x ∈ l,P x
 | 0,zs,l,r,hz,h=>by cases h;simp
 | n+1,zs,l,r,hz,h=>by
  unfold pMany at h;split at h
  ·cases h
  ·rename_i l1 r1 e1
   split at h
   ·cases h
   ·rename_i y r2 e2
    cases h
    obtain⟨h2,h3,h4⟩:=Xk8 h1 n zs _ _ hz e1;have hz1:AllBytes r1:=fun z hzz=>hz z (by rw[h2];simp[hzz])
    obtain⟨h5,h6⟩:=h1 _ _ _ hz1 e2;refine⟨by rw[h2,h5];simp,by simp[h3],fun x hx=>?_⟩;rcases List.mem_append.1 hx with hx | hx
    ·exact h4 x hx
    ·obtain rfl:x=y:=by simpa using hx
     exact h6
theorem Xmx(h1:Got f P one)(he:Errs one):∀n zs c,AllBytes zs→pMany one n zs=.error c→c=4∨c=5
 | 0,zs,c,hz,h=>by cases h
 | n+1,zs,c,hz,h=>by
  unfold pMany at h;split at h
  ·rename_i e1
   cases h
   exact Xmx h1 he n zs _ hz e1
  ·rename_i l1 r1 e1
   obtain⟨h2,h3,h4⟩:=Xk8 h1 n zs _ _ hz e1;have hz1:AllBytes r1:=fun z hzz=>hz z (by rw[h2];simp[hzz])
   split at h
   ·rename_i e2
    cases h
    exact he _ _ hz1 e2
   ·cases h
theorem Xf3(h1:Got f P one):Got (fun l=>short l.length++l.flatMap f) (fun l=>l.length≤65535∧∀x ∈ l,P x) (pList one):=by
 intro zs l r hz h;unfold pList at h;split at h
 ·cases h
 ·rename_i n r1 e1
  obtain⟨h2,h3⟩:=Xiw hz e1;have hz1:AllBytes r1:=fun z hzz=>hz z (by rw[h2];simp[hzz])
  obtain⟨h4,h5,h6⟩:=Xk8 h1 n _ _ _ hz1 h;refine⟨by show zs=short l.length++l.flatMap f++r;rw[h5,h2,h4];simp,by omega,h6⟩
theorem Xg0(h1:Got f P one)(he:Errs one):Errs (pList one):=by
 intro zs c hz h;unfold pList at h;split at h
 ·rename_i e1
  cases h
  exact Xp6 hz e1
 ·rename_i n r1 e1
  obtain⟨h2,h3⟩:=Xiw hz e1;have hz1:AllBytes r1:=fun z hzz=>hz z (by rw[h2];simp[hzz])
  exact Xmx h1 he n _ _ hz1 h
end
theorem Xhn(l:List Int):l.flatMap (fun z=>[z])=l:=by induction l with
 | nil=>rfl
 | cons x r ih=>simp[ih]
theorem flatMap_id(l:List (List Int)):l.flatMap (fun z=>z)=l.flatten:=by simp[List.flatMap]
theorem Xe9:Got encL (fun l=>l.length≤65535∧AllBytes l) pBytes:=by
 intro zs x r hz h;obtain⟨h1,h2,h3⟩:=Xf3 Xby zs x r hz h;refine⟨?_,h2,h3⟩;rw[h1];show short x.length++x.flatMap (fun z=>[z])++r=_
 rw[Xhn];rfl
theorem Xfl:Errs pBytes:=Xg0 Xby Xe5
theorem AllBytes.behind{zs a r:List Int}(hz:AllBytes zs)(h:zs=a++r):AllBytes r:=fun z hzz=>hz z (by rw[h];simp[hzz])
def InOk(i:LIn):Prop:=IsByte i.p∧(i.acc.length≤65535∧AllBytes i.acc)∧(i.dat.length≤65535∧AllBytes i.dat)
def LookOk(l:LLook):Prop:=(l.tab.length=32∧AllBytes l.tab)∧(l.wr.length≤65535∧AllBytes l.wr)∧(l.rd.length≤65535∧AllBytes l.rd)
theorem Xqs:Got encIn InOk pIn:=by
 intro zs x r hz h;unfold pIn at h;split at h
 ·cases h
 ·rename_i e1
  obtain⟨a1,b1⟩:=Xby _ _ _ hz e1;have hz1:=hz.behind a1;split at h
  ·cases h
  ·rename_i e2
   obtain⟨a2,b2⟩:=Xe9 _ _ _ hz1 e2;have hz2:=hz1.behind a2;split at h
   ·cases h
   ·rename_i e3
    obtain⟨a3,b3⟩:=Xe9 _ _ _ hz2 e3;cases h
    exact⟨by rw[a1,a2,a3];simp[encIn],b1,b2,b3⟩
theorem err_in:Errs pIn:=by
 intro zs c hz h;unfold pIn at h;split at h
 ·rename_i e1
  cases h
  exact Xe5 _ _ hz e1
 ·rename_i e1
  have hz1:=hz.behind (Xby _ _ _ hz e1).1;split at h
  ·rename_i e2
   cases h
   exact Xfl _ _ hz1 e2
  ·rename_i e2
   have hz2:=hz1.behind (Xe9 _ _ _ hz1 e2).1;split at h
   ·rename_i e3
    cases h
    exact Xfl _ _ hz2 e3
   ·cases h
theorem Xn0:Got encLook LookOk pLook:=by
 intro zs x r hz h;unfold pLook at h;split at h
 ·cases h
 ·rename_i e1
  obtain⟨a1,b1⟩:=Xdn 32 _ _ _ hz e1;have hz1:=hz.behind a1;split at h
  ·cases h
  ·rename_i e2
   obtain⟨a2,b2⟩:=Xe9 _ _ _ hz1 e2;have hz2:=hz1.behind a2;split at h
   ·cases h
   ·rename_i e3
    obtain⟨a3,b3⟩:=Xe9 _ _ _ hz2 e3;cases h
    exact⟨by rw[a1,a2,a3];simp[encLook],b1,b2,b3⟩
theorem Xu8:Errs pLook:=by
 intro zs c hz h;unfold pLook at h;split at h
 ·rename_i e1
  cases h
  exact Xh4 32 _ _ hz e1
 ·rename_i e1
  have hz1:=hz.behind (Xdn 32 _ _ _ hz e1).1;split at h
  ·rename_i e2
   cases h
   exact Xfl _ _ hz1 e2
  ·rename_i e2
   have hz2:=hz1.behind (Xe9 _ _ _ hz1 e2).1;split at h
   ·rename_i e3
    cases h
    exact Xfl _ _ hz2 e3
   ·cases h
theorem Xlb:Got (fun p=>if p.1 then[128,p.2]else[p.2]) (fun p=>IsByte p.2∧(p.1=true∨p.2<128)) pFirst:=by
 intro zs x r hz h;unfold pFirst at h;split at h
 ·cases h
 ·rename_i f r1 e1
  obtain⟨a1,b1⟩:=Xby _ _ _ hz e1;have hz1:=hz.behind a1;split at h
  ·cases h
  ·split at h
   ·rename_i hf
    split at h
    ·cases h
    ·rename_i e2
     obtain⟨a2,b2⟩:=Xby _ _ _ hz1 e2;cases h
     exact⟨by rw[a1,a2,hf];simp,b2,.inl rfl⟩
   ·cases h
    exact⟨by rw[a1];simp,b1,.inr (by show f<128;omega)⟩
theorem Xre:Errs pFirst:=by
 intro zs c hz h;unfold pFirst at h;split at h
 ·rename_i e1
  cases h
  exact Xe5 _ _ hz e1
 ·rename_i f r1 e1
  have hz1:=hz.behind (Xby _ _ _ hz e1).1;split at h
  ·cases h;exact .inl rfl
  ·split at h
   ·split at h
    ·rename_i e2
     cases h
     exact Xe5 _ _ hz1 e2
    ·cases h
   ·cases h
theorem Xnu:Got (fun l=>short l.length++l.flatten) (fun l=>l.length≤65535∧∀k ∈ l,k.length=32∧AllBytes k) (pList (pTake 32)):=by
 intro zs x r hz h;obtain⟨h1,h2,h3⟩:=Xf3 (Xdn 32) zs x r hz h;refine⟨?_,h2,h3⟩;rw[h1];simp[flatMap_id]
theorem Xto:Errs (pList (pTake 32)):=Xg0 (Xdn 32) (Xh4 32)
theorem Xuy{zs:List Int}(hz:AllBytes zs){m:LMsg}{r:List Int}(h:pMsg zs=.ok (m,r)):zs=enc m++r∧Fits m∧m.Wf:=by
 unfold pMsg at h;split at h
 ·cases h
 rename_i v0 s r1 e1
 obtain⟨a1,b1⟩:=Xlb _ _ _ hz e1;have hz1:=hz.behind a1;split at h
 ·cases h
 rename_i rs r2 e2
 obtain⟨a2,b2⟩:=Xby _ _ _ hz1 e2;have hz2:=hz1.behind a2;split at h
 ·cases h
 rename_i ro r3 e3
 obtain⟨a3,b3⟩:=Xby _ _ _ hz2 e3;have hz3:=hz2.behind a3;split at h
 ·cases h
 rename_i ks r4 e4
 obtain⟨a4,b4⟩:=Xnu _ _ _ hz3 e4;have hz4:=hz3.behind a4;split at h
 ·cases h
 rename_i hh r5 e5
 obtain⟨a5,b5⟩:=Xdn 32 _ _ _ hz4 e5;have hz5:=hz4.behind a5;split at h
 ·cases h
 rename_i is r6 e6
 obtain⟨a6,b6⟩:=Xf3 Xqs _ _ _ hz5 e6;have hz6:=hz5.behind a6;split at h
 ·cases h
 rename_i ls r7 e7
 cases h
 cases v0
 ·simp only[pLooks,Bool.false_eq_true,if_false]at e7;cases e7
  simp only[Bool.false_eq_true,if_false,false_or]at a1 b1;refine⟨?_,⟨.inr ⟨rfl,b1.2⟩,b4.1,b6.1,by simp,fun i hi=>⟨(b6.2 i hi).2.1.1,(b6.2 i hi).2.2.1⟩,by simp⟩,b1.1,b2,b3,b4.2,b5,fun i hi=>⟨(b6.2 i hi).1,(b6.2 i hi).2.1.2,(b6.2 i hi).2.2.2⟩,by simp⟩;rw[a1,a2,a3,a4,a5,a6];simp[enc,encHead,encTail]
 ·simp only[pLooks,if_true]at e7;obtain⟨a7,b7⟩:=Xf3 Xn0 _ _ _ hz6 e7;simp only[if_true,true_or,and_true]at a1 b1;refine⟨?_,⟨.inl rfl,b4.1,b6.1,b7.1,fun i hi=>⟨(b6.2 i hi).2.1.1,(b6.2 i hi).2.2.1⟩,fun l hl=>⟨(b7.2 l hl).2.1.1,(b7.2 l hl).2.2.1⟩⟩,b1,b2,b3,b4.2,b5,fun i hi=>⟨(b6.2 i hi).1,(b6.2 i hi).2.1.2,(b6.2 i hi).2.2.2⟩,fun l hl=>⟨(b7.2 l hl).1,(b7.2 l hl).2.1.2,(b7.2 l hl).2.2.2⟩⟩;rw[a1,a2,a3,a4,a5,a6,a7];simp[enc,encHead,encTail]
theorem Xhb{zs:List Int}(hz:AllBytes zs){c:Int}(h:pMsg zs=.error c):c=4∨c=5:=by
 unfold pMsg at h;split at h
 ·rename_i e;cases h;exact Xre _ _ hz e
 rename_i v0 s r1 e1
 have hz1:=hz.behind (Xlb _ _ _ hz e1).1;split at h
 ·rename_i e;cases h;exact Xe5 _ _ hz1 e
 rename_i rs r2 e2
 have hz2:=hz1.behind (Xby _ _ _ hz1 e2).1;split at h
 ·rename_i e;cases h;exact Xe5 _ _ hz2 e
 rename_i ro r3 e3
 have hz3:=hz2.behind (Xby _ _ _ hz2 e3).1;split at h
 ·rename_i e;cases h;exact Xto _ _ hz3 e
 rename_i ks r4 e4
 have hz4:=hz3.behind (Xnu _ _ _ hz3 e4).1;split at h
 ·rename_i e;cases h;exact Xh4 32 _ _ hz4 e
 rename_i hh r5 e5
 have hz5:=hz4.behind (Xdn 32 _ _ _ hz4 e5).1;split at h
 ·rename_i e;cases h;exact Xg0 Xqs err_in _ _ hz5 e
 rename_i is r6 e6
 have hz6:=hz5.behind (Xf3 Xqs _ _ _ hz5 e6).1;split at h
 ·rename_i e
  cases h
  cases v0
  ·simp[pLooks]at e
  ·simp only[pLooks,if_true]at e;exact Xg0 Xn0 Xu8 _ _ hz6 e
 ·cases h
theorem Xtk(n:Int)(rest:List Int)(h0:0≤n)(h1:n≤65535):getS (short n++rest)=(n,((short n).length:Int),0):=by
 by_cases h:n<128
 ·have e:short n=[n]:=by simp[short,h]
  have hm:mea (n::rest)=(1,0):=by simp[mea,h]
  simp[e,getS,hm]
 ·by_cases h':n<16384
  ·have e:short n=[n % 128+128,n / 128]:=by simp[short,h,h']
   have hm:mea ((n % 128+128)::(n / 128)::rest)=(2,0):=by
    simp only[mea,List.length_cons,List.getD_cons_zero,List.getD_cons_succ];rw[if_neg (by omega),if_neg (by omega),if_neg (by omega),if_neg (by omega),if_pos (by omega)]
   simp[e,getS,hm];omega
  ·have e:short n=[n % 128+128,n / 128 % 128+128,n / 16384]:=by simp[short,h,h']
   have hm:mea ((n % 128+128)::(n / 128 % 128+128)::(n / 16384)::rest)=(3,0):=by
    simp only[mea,List.length_cons,List.getD_cons_zero,List.getD_cons_succ];rw[if_neg (by omega),if_neg (by omega),if_neg (by omega),if_neg (by omega),if_neg (by omega),if_neg (by omega),if_neg (by omega)]
   simp[e,getS,hm];omega
theorem Xps(n:Nat)(r:List Int)(h:n≤65535):pShort (short n++r)=.ok (n,r):=by
 unfold pShort;rw[Xtk n r (by omega) (by omega)];simp
def Puts{α:Type}(f:α→List Int)(P:α→Prop)(one:List Int→PR α):Prop:=∀x,P x→∀r,one (f x++r)=.ok (x,r)
theorem Xpg:Puts (fun z=>[z]) (fun _=>True) pOctet:=fun x _ r=>rfl
theorem Xfs(n:Nat):Puts (fun l=>l) (fun l=>l.length=n) (pTake n):=by
 rintro l rfl r;unfold pTake;rw[if_neg (by simp)];simp
section
variable{α:Type}{f:α→List Int}{P:α→Prop}{one:List Int→PR α}
theorem Xl6(h1:Puts f P one):∀(n:Nat) (l:List α),l.length=n→(∀x ∈ l,P x)→∀r,pMany one n (l.flatMap f++r)=.ok (l,r)
 | 0,l,hl,_,r=>by
  obtain rfl:=List.length_eq_zero_iff.1 hl;rfl
 | n+1,l,hl,hp,r=>by
  obtain⟨l',x,rfl⟩:∃l' x,l=l'++[x]:=⟨l.dropLast,l.getLast (by intro h;simp[h]at hl),(List.dropLast_concat_getLast _).symm⟩;have h2:=Xl6 h1 n l' (by simpa using hl) (fun y hy=>hp y (by simp[hy])) (f x++r);have h3:=h1 x (hp x (by simp)) r;unfold pMany;rw[List.flatMap_append,List.append_assoc,show[x].flatMap f=f x by simp,h2];simp only[h3]
theorem Xeq(h1:Puts f P one):Puts (fun l=>short l.length++l.flatMap f) (fun l=>l.length≤65535∧∀x ∈ l,P x) (pList one):=by
 rintro l ⟨h2,h3⟩ r;unfold pList;rw[List.append_assoc,Xps _ _ h2];exact Xl6 h1 _ l rfl h3 r
end
theorem Xf8:Puts encL (fun l=>l.length≤65535) pBytes:=by
 intro l hl r;have:=Xeq Xpg l ⟨hl,fun _ _=>trivial⟩ r;simp only[Xhn]at this;exact this
theorem Xwe:Puts encIn (fun i=>i.acc.length≤65535∧i.dat.length≤65535) pIn:=by
 rintro⟨p,a,d⟩ ⟨h1,h2⟩ r;unfold pIn;have e1:pOctet (encIn ⟨p,a,d⟩++r)=.ok (p,encL a++(encL d++r)):=by simp[encIn,pOctet]
 rw[e1];simp only[Xf8 a h1,Xf8 d h2]
theorem Xsy:Puts encLook (fun l=>l.tab.length=32∧l.wr.length≤65535∧l.rd.length≤65535) pLook:=by
 rintro⟨t,a,d⟩ ⟨h0,h1,h2⟩ r;unfold pLook;have e1:pTake 32 (encLook ⟨t,a,d⟩++r)=.ok (t,encL a++(encL d++r)):=by
  have:=Xfs 32 t h0 (encL a++(encL d++r));rw[←this];simp[encLook]
 rw[e1];simp only[Xf8 a h1,Xf8 d h2]
theorem Xrq:Puts (fun l=>short l.length++l.flatten) (fun l:List (List Int)=>l.length≤65535∧∀k ∈ l,k.length=32) (pList (pTake 32)):=by
 rintro l h r;have:=Xeq (Xfs 32) l h r;simp only[flatMap_id]at this;exact this
theorem Xud{m:LMsg}(hf:Fits m)(hw:m.Wf)(r:List Int):pMsg (enc m++r)=.ok (m,r):=by
 obtain⟨v0,s,rs,ro,ks,h,is,ls⟩:=m;obtain⟨f1,f2,f3,f4,f5,f6⟩:=hf;have k1:=Xrq ks ⟨f2,fun k hk=>(hw.keys k hk).1⟩;have k2:=Xfs 32 h hw.recent.1;have k3:=Xeq Xwe is ⟨f3,f5⟩;have k4:=Xeq Xsy ls ⟨f4,fun l hl=>⟨(hw.looks l hl).1.1,f6 l hl⟩⟩;have hs:=hw.s;unfold IsByte at hs;dsimp only at f1 f2 f3 f4 f5 f6 hs
 simp only[List.append_assoc]at k1 k2 k3 k4;cases v0
 ·obtain⟨rfl,hs1⟩:ls=[]∧s<128:=by simpa using f1
  have e:enc ⟨false,s,rs,ro,ks,h,is,[]⟩++r=s::rs::ro::(short ks.length++(ks.flatten++(h++(short is.length++(is.flatMap encIn++r))))):=by
   simp[enc,encHead,encTail]
  rw[e];have e1:pFirst (s::rs::ro::(short ks.length++(ks.flatten++(h++(short is.length++(is.flatMap encIn++r))))))=.ok ((false,s),rs::ro::(short ks.length++(ks.flatten++(h++(short is.length++(is.flatMap encIn++r)))))):=by
   unfold pFirst;simp only[pOctet];rw[if_neg (by omega),if_neg (by omega)]
  unfold pMsg;rw[e1];simp only[pOctet,k1,k2,k3,pLooks,Bool.false_eq_true,if_false]
 ·have e:enc ⟨true,s,rs,ro,ks,h,is,ls⟩++r=128::s::rs::ro::(short ks.length++(ks.flatten++(h++(short is.length++(is.flatMap encIn++(short ls.length++(ls.flatMap encLook++r))))))):=by
   simp[enc,encHead,encTail]
  rw[e];have e1:pFirst (128::s::rs::ro::(short ks.length++(ks.flatten++(h++(short is.length++(is.flatMap encIn++(short ls.length++(ls.flatMap encLook++r))))))))=.ok ((true,s),rs::ro::(short ks.length++(ks.flatten++(h++(short is.length++(is.flatMap encIn++(short ls.length++(ls.flatMap encLook++r)))))))):=by
   unfold pFirst;simp only[pOctet];rw[if_neg (by omega),if_pos trivial]
  unfold pMsg;rw[e1];simp only[pOctet,k1,k2,k3,k4,pLooks,if_true]
def pBind{α β:Type}(one:List Int→PR α)(k:α→List Int→PR β)(zs:List Int):PR β:=match one zs with
 | .error c=>.error c
 | .ok (x,r)=>k x r
section
variable{α β:Type}{f:List Int→PR α}{g:α→List Int→PR β}{s s1 s':St}{x:α}{y:β}
theorem Step.bind(h1:Step f s x s1)(h2:Step (g x) s1 y s'):Step (pBind f g) s y s':=by
 match s,h1 with
 | .error c,h1 =>
  have h1:s1=.error c:=h1;subst h1;exact h2
 | .ok r,h1 =>
  unfold Step at h1;unfold Step pBind;simp only at h1 ⊢;cases hf:f r with
  | error c =>
   rw[hf]at h1;simp only at h1 ⊢;subst h1;exact h2
  | ok a =>
   obtain⟨a,r'⟩:=a;rw[hf]at h1;simp only at h1 ⊢;obtain⟨rfl,rfl⟩:=h1;exact h2
theorem Step.same{f':List Int→PR α}(h:Step f s x s')(e:∀zs,f zs=f' zs):Step f' s x s':=by
 rw[show f'=f from funext fun zs=>(e zs).symm];exact h
theorem Step.pure(x:α)(s:St):Step (fun r=>.ok (x,r)) s x s:=by
 cases s with
 | error c=>rfl
 | ok r=>exact⟨rfl,rfl⟩
end
section
variable{α:Type}{one:List Int→PR α}{s s1 s2 s':St}{l:List α}{x:α}{n k:Nat}
theorem Step.many0(s:St):Step (pMany one 0) s [] s:=by
 cases s with
 | error c=>rfl
 | ok r=>exact⟨rfl,rfl⟩
theorem Step.many1(h:Step (pMany one k) s l s1)(h1:Step one s1 x s2):Step (pMany one (k+1)) s (l++[x]) s2:=by
 have h2:Step (pBind (pMany one k) fun l=>pBind one fun x r=>.ok (l++[x],r)) s (l++[x]) s2:=h.bind (h1.bind (Step.pure (l++[x]) s2));refine h2.same fun zs=>?_
 unfold pBind;rw[Xbd];cases pMany one k zs with
 | error c=>rfl
 | ok a =>
  obtain⟨l,r⟩:=a;simp only;cases one r with
  | error c=>rfl
  | ok b=>rfl
theorem Step.many_fail{c:Int}(h:Step (pMany one k) s l (.error c))(hk:k≤n)(l':List α):Step (pMany one n) s l' (.error c):=by
 cases s with
 | error c'=>exact h
 | ok r =>
  unfold Step at h ⊢;simp only at h ⊢;cases hf:pMany one k r with
  | error c' =>
   rw[hf]at h;simp only at h;cases h
   rw[Xe2 one hf n hk]
  | ok a =>
   rw[hf]at h;obtain⟨_,h⟩:=h;cases h
theorem Step.list(h:Step pShort s n s1)(h1:Step (pMany one n) s1 l s'):Step (pList one) s l s':=by
 refine(Step.bind (g:=fun n=>pMany one n) h h1).same fun zs=>?_
 unfold pBind pList;cases pShort zs with
 | error c=>rfl
 | ok a=>rfl
end
theorem Xj1:∀(n:Nat) (r:List Int),pMany pOctet n r=pTake n r
 | 0,r=>by simp[pMany,pTake]
 | n+1,r=>by
  rw[Xbd,Xj1 n r];unfold pTake;by_cases h:r.length<n
  ·rw[if_pos h,if_pos (by omega)]
  ·rw[if_neg h];simp only;cases hd:r.drop n with
   | nil =>
    have:r.length=n:=by
     have:=congrArg List.length hd;simp at this;omega
    rw[if_pos (by omega)];rfl
   | cons z t =>
    have hl:n<r.length:=by
     have:=congrArg List.length hd;simp at this;omega
    rw[if_neg (by omega)];have e1:r[n]?=some z:=by
     have:=congrArg (·[0]?) hd;simpa using this
    have e2:r.take (n+1)=r.take n++[z]:=by
     rw[List.take_add_one,e1];rfl
    have e3:r.drop (n+1)=t:=by
     rw[←List.drop_drop,hd];rfl
    rw[e2,e3];rfl
theorem Step.bytes{s s1 s':St}{n:Nat}{l:List Int}(h:Step pShort s n s1)(h1:Step (pTake n) s1 l s'):Step pBytes s l s':=
 Step.list h (h1.same fun zs=>(Xj1 n zs).symm)
theorem Step.in_{s s1 s2 s3:St}{p:Int}{a d:List Int}(h:Step pOctet s p s1)(h1:Step pBytes s1 a s2)(h2:Step pBytes s2 d s3):Step pIn s ⟨p,a,d⟩ s3:=by
 refine(Step.bind (g:=fun p=>pBind pBytes fun a=>pBind pBytes fun d r=>.ok (⟨p,a,d⟩,r)) h (h1.bind (h2.bind (Step.pure _ _)))).same fun zs=>?_
 unfold pBind pIn;repeat' (split <;> simp_all)
theorem Step.look{s s1 s2 s3:St}{t a d:List Int}(h:Step (pTake 32) s t s1)(h1:Step pBytes s1 a s2)(h2:Step pBytes s2 d s3):Step pLook s ⟨t,a,d⟩ s3:=by
 refine(Step.bind (g:=fun t=>pBind pBytes fun a=>pBind pBytes fun d r=>.ok (⟨t,a,d⟩,r)) h (h1.bind (h2.bind (Step.pure _ _)))).same fun zs=>?_
 unfold pBind pLook;repeat' (split <;> simp_all)
theorem Step.first0{zs:List Int}{x:Int}{s1:St}(h:Step pOctet (.ok zs) x s1)(hx:¬128<x)(hx':x≠128):Step pFirst (.ok zs) (false,x) s1:=by
 unfold Step at h ⊢;unfold pFirst;simp only at h ⊢;cases hf:pOctet zs with
 | error c=>rw[hf]at h;exact h
 | ok a =>
  obtain⟨a,r⟩:=a;rw[hf]at h;simp only at h ⊢;obtain⟨rfl,rfl⟩:=h;rw[if_neg hx,if_neg hx'];exact⟨rfl,rfl⟩
theorem Step.first1{zs:List Int}{y:Int}{s1 s2:St}(h:Step pOctet (.ok zs) 128 s1)(h1:Step pOctet s1 y s2):Step pFirst (.ok zs) (true,y) s2:=by
 unfold Step at h;simp only at h;cases hf:pOctet zs with
 | error c =>
  rw[hf]at h;simp only at h;subst h;have h1:s2=.error c:=h1;unfold Step pFirst;simp only[hf];exact h1
 | ok a =>
  obtain⟨a,r⟩:=a;rw[hf]at h;simp only at h;obtain⟨rfl,rfl⟩:=h;unfold Step at h1 ⊢;unfold pFirst;simp only[hf];rw[if_neg (by omega),if_pos trivial];simp only at h1;cases hg:pOctet r with
  | error c =>
   rw[hg]at h1;exact h1
  | ok b =>
   obtain⟨b,r'⟩:=b;rw[hg]at h1;simp only at h1 ⊢;obtain⟨rfl,rfl⟩:=h1;exact⟨rfl,rfl⟩
theorem Step.first_no{zs:List Int}{x:Int}{r:List Int}(h:Step pOctet (.ok zs) x (.ok r))(hx:128<x):pMsg zs=.error 4:=by
 unfold Step at h;simp only at h;unfold pMsg pFirst;cases hf:pOctet zs with
 | error c=>rw[hf]at h;cases h
 | ok a =>
  obtain⟨a,r⟩:=a;rw[hf]at h;simp only at h ⊢;obtain⟨rfl,h⟩:=h;rw[if_pos hx]
theorem Step.msg{zs:List Int}{v0:Bool}{s1 s2 s3 s4 s5 s6 s7:St}{s rs ro:Int}{ks:List (List Int)}{h:List Int}{is:List LIn}{ls:List LLook}
 (h1:Step pFirst (.ok zs) (v0,s) s1) (h2:Step pOctet s1 rs s2) (h3:Step pOctet s2 ro s3) (h4:Step (pList (pTake 32)) s3 ks s4) (h5:Step (pTake 32) s4 h s5) (h6:Step (pList pIn) s5 is s6) (h7:Step (pLooks v0) s6 ls s7) :
 Step pMsg (.ok zs) ⟨v0,s,rs,ro,ks,h,is,ls⟩ s7:=by
 refine(Step.bind (g:=fun a=>pBind pOctet fun rs=>pBind pOctet fun ro=>pBind (pList (pTake 32)) fun ks=>pBind (pTake 32) fun h=>pBind (pList pIn) fun is=>pBind (pLooks a.1) fun ls r=>.ok (⟨a.1,a.2,rs,ro,ks,h,is,ls⟩,r)) h1 (h2.bind (h3.bind (h4.bind (h5.bind (h6.bind (h7.bind (Step.pure _ _)))))))).same fun zs=>?_
 unfold pBind pMsg;repeat' (split <;> simp_all)
theorem Step.looks0(s:St):Step (pLooks false) s [] s:=Step.pure [] s
theorem Step.looks1{s s':St}{l:List LLook}(h:Step (pList pLook) s l s'):Step (pLooks true) s l s':=h
theorem Step.done{zs:List Int}{m:LMsg}{r:List Int}(h:Step pMsg (.ok zs) m (.ok r)):pMsg zs=.ok (m,r):=by
 unfold Step at h;simp only at h;cases hf:pMsg zs with
 | error c=>rw[hf]at h;cases h
 | ok a =>
  obtain⟨a,r'⟩:=a;rw[hf]at h;simp only at h;obtain⟨rfl,h⟩:=h;cases h
  rfl
theorem Step.fell{zs:List Int}{m:LMsg}{c:Int}(h:Step pMsg (.ok zs) m (.error c)):pMsg zs=.error c:=by
 unfold Step at h;simp only at h;cases hf:pMsg zs with
 | error c'=>rw[hf]at h;cases h;rfl
 | ok a =>
  rw[hf]at h;obtain⟨_,h⟩:=h;cases h
end Go.Proofs.YtdgbodljmdcagaaGreatDoor
