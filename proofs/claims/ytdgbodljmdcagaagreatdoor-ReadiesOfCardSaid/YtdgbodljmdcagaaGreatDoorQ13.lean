import Derived.Test.YtdgbodljmdcagaaGreatDoorQ12
import Derived.Laws.NewBlocks
import Derived.Laws.Append
import Derived.Laws.AppendOwn
import Derived.RangeFuncNested
import Derived.RangeFuncBound
import Derived.RangeFuncCalls
import Derived.RangeFuncLeaves
import Derived.Shelf.Abstract
import Derived.Shelf.RegionOpen
import Derived.OwnWalkIn
import Derived.TacticsInMore
import Derived.LoopNIn
import Derived.LoopIn
import Derived.LaidMore
set_option maxRecDepth 100000
set_option maxHeartbeats 16000000
set_option linter.unusedSimpArgs false
set_option linter.unusedVariables false
namespace Go.Proofs.YtdgbodljmdcagaaGreatDoor
open Go.RowKit
theorem Xt1(k:Nat)(y x:Int)(h0:0≤y)(h1:y<2 ^ k)(h2:0≤x)(h3:x % 2 ^ k=0)(hy:y<18446744073709551616)(hx:x<18446744073709551616):bits .or .u64 x y=x+y:=by
 obtain⟨a,b,rfl,rfl,h⟩:=Xe4 k y x h0 h1 h2 h3;rw[u64_or_nat b a (by omega) (by omega),Nat.or_comm,h];simp;omega
theorem Xsp(x:Int)(h:Word x):bits .and .u64 x 4294967295=x % 4294967296:=by
 obtain⟨n,rfl,hn⟩:=h.nat;rw[low32 n hn];omega
theorem w64{x:Int}(h0:0≤x)(h1:x<18446744073709551616):IntKind.u64.wrap x=x:=by rw[IntKind.wrap_u64];omega
structure Pieces(hi lo y:Int)(s:Nat)(u v v1 v0 l d e:Int):Prop where
 iv:v=y*2 ^ s
 v9:9223372036854775808≤v
 vw:v<18446744073709551616
 i1:v1=v / 4294967296
 i0:v0=v % 4294967296
 u0:0≤u
 uv:u<v
 d0:0≤d
 d1:d<4294967296
 e0:0≤e
 e1:e<4294967296
 all:u*18446744073709551616+d*4294967296+e=(hi*18446744073709551616+lo)*2 ^ s
theorem pieces{hi lo y:Int}{s:Nat}(hh:0≤hi)(hl:Word lo)(h:hi<y)(hs:s≤63)(top:9223372036854775808≤y*2 ^ s)(top':y*2 ^ s<18446744073709551616) :
 ∃u v v1 v0 l d e,IntKind.u64.wrap (y*2 ^ s)=v∧v / 4294967296=v1∧bits .and .u64 v 4294967295=v0∧bits .or .u64 (IntKind.u64.wrap (hi*2 ^ s)) (lo / 2 ^ (64 - s))=u ∧
  IntKind.u64.wrap (lo*2 ^ s)=l∧l / 4294967296=d∧bits .and .u64 l 4294967295=e∧Pieces hi lo y s u v v1 v0 l d e:=by
 have p:(0:Int)<2 ^ s:=Int.pow_pos (by omega);have p':(0:Int)<2 ^ (64 - s):=Int.pow_pos (by omega);have pp:(2:Int) ^ (64 - s)*2 ^ s=18446744073709551616:=by
  rw[←Int.pow_add,show 64 - s+s=64 by omega];rfl
 have a0:0≤hi*2 ^ s:=Int.mul_nonneg hh (Int.le_of_lt p);have a1:hi*2 ^ s<y*2 ^ s:=Int.mul_lt_mul_of_pos_right h p;have b0:0≤lo / 2 ^ (64 - s):=Int.ediv_nonneg hl.1 (Int.le_of_lt p');have b1:lo / 2 ^ (64 - s)<2 ^ s:=Int.ediv_lt_of_lt_mul p' (by rw[Int.mul_comm,pp];exact hl.2);have b2:(2:Int) ^ s≤9223372036854775808:=by
  have:(2:Nat) ^ s≤2 ^ 63:=Nat.pow_le_pow_right (by omega) hs;have e:((2 ^ s:Nat):Int)=(2:Int) ^ s:=by simp
  omega
 have c0:lo*2 ^ s / 18446744073709551616=lo / 2 ^ (64 - s):=by
  rw[←pp];exact Int.mul_ediv_mul_of_pos_left _ _ p
 have c1:=Int.mul_ediv_add_emod (lo*2 ^ s) 18446744073709551616;rw[c0]at c1;have o:=Xt1 s (lo / 2 ^ (64 - s)) (hi*2 ^ s) b0 b1 a0 (Int.mul_emod_left _ _) (by omega) (by omega);refine⟨_,y*2 ^ s,_,_,lo*2 ^ s % 18446744073709551616,_,_,w64 (by omega) top',rfl,Xsp _ ⟨by omega,top'⟩,by rw[w64 a0 (by omega),o],by rw[IntKind.wrap_u64],rfl,Xsp _ (Xjq _),?_⟩;have k:hi*2 ^ s+2 ^ s≤y*2 ^ s:=by
  have:=Int.mul_le_mul_of_nonneg_right (show hi+1≤y by omega) (Int.le_of_lt p);rw[Int.add_mul,Int.one_mul]at this;exact this
 have all:(hi*18446744073709551616+lo)*2 ^ s=hi*2 ^ s*18446744073709551616+lo*2 ^ s:=by
  rw[Int.add_mul,Int.mul_right_comm]
 refine⟨rfl,top,top',rfl,rfl,by omega,by omega,by omega,by omega,by omega,by omega,?_⟩;rw[all];generalize hi*2 ^ s=A at *;generalize lo*2 ^ s=B at *;omega
theorem Xid{u v v1 v0 d:Int}(hu:0≤u)(huv:u<v)(hd:0≤d)(hd':d<4294967296)(hv:9223372036854775808≤v)(hv':v<18446744073709551616)(e1:v1=v / 4294967296)(e0:v0=v % 4294967296) :
 ∃q r,IntKind.u64.wrap (u.tdiv v1)=q∧IntKind.u64.wrap (u - IntKind.u64.wrap (q*v1))=r∧Guess u v d v1 q r:=by
 have g:=Guess.first hu huv hd hd' hv hv' e1 e0;refine⟨_,_,rfl,rfl,?_⟩;have h:=g.eq;have q0:=g.q0;have q1:=g.q1;have r0:=g.r0;have r1:=g.r1;rw[Int.tdiv_eq_ediv_of_nonneg hu,w64 q0 (by omega),w64 (x:=u / v1*v1) (by have:=Int.mul_nonneg q0 (show 0≤v1 by omega);exact this) (by omega),show u - u / v1*v1=u % v1 by omega,w64 r0 (by omega)];exact g
theorem Xwp{hi lo y:Int}{s:Nat}{u v v1 v0 l d e:Int}(P:Pieces hi lo y s u v v1 v0 l d e)(hh:0≤hi)(hl:Word lo)(h:hi<y) :
 ∃D U D' q' r',D=digit u v d∧D'=digit U v e∧IntKind.u64.wrap (IntKind.u64.wrap (IntKind.u64.wrap (u*4294967296)+d) - IntKind.u64.wrap (D*v))=U∧0≤U∧U<v ∧
  IntKind.u64.wrap (U.tdiv v1)=q'∧IntKind.u64.wrap (U - IntKind.u64.wrap (q'*v1))=r'∧Guess U v e v1 q' r' ∧
  IntKind.u64.wrap (IntKind.u64.wrap (D*4294967296)+D')=(hi*18446744073709551616+lo) / y ∧
  IntKind.u64.wrap (IntKind.u64.wrap (IntKind.u64.wrap (U*4294967296)+e) - IntKind.u64.wrap (D'*v)) / 2 ^ s=(hi*18446744073709551616+lo) % y:=by
 have a:=Xk1 (u:=u) (v:=v) (d:=d);have i:=Xk2 (u:=u) (d:=d) P.v9;have dq:=Xcb P.u0 P.uv P.d0 P.d1 P.v9;obtain⟨q',r',hq,hr,G⟩:=Xid i.1 i.2 P.e0 P.e1 P.v9 P.vw P.i1 P.i0;obtain⟨f1,f2⟩:=Xo3 hh h hl.1 hl.2 P.iv P.all P.u0 P.uv P.d0 P.d1 P.e0 P.e1 P.v9;have b:=Xk1 (u:=left u v d) (v:=v) (d:=e);have j:=Xk2 (u:=left u v d) (d:=e) P.v9;have dq':=Xcb i.1 i.2 P.e0 P.e1 P.v9;have vw:=P.vw;refine⟨_,left u v d,_,q',r',rfl,rfl,?_,i.1,i.2,hq,hr,G,?_,?_⟩
 ·simp only[IntKind.wrap_u64];generalize digit u v d*v=x at *;omega
 ·rw[←f1];simp only[IntKind.wrap_u64];omega
 ·rw[←f2];congr 1
  simp only[IntKind.wrap_u64];generalize digit (left u v d) v e*v=x at *;omega
theorem Xrf(lo y:Int)(hl:Word lo)(hy:Word y)(h:0<y)(w:World) :
 Calls Tryz.prog 127 #[.int .u64 0,.int .u64 lo,.int .u64 y] w fun e w'=>e=.returned (.tuple #[.int .u64 (lo / y),.int .u64 (lo % y)])∧∃k,w'=w.drewN k:=by
 have n0:(y==0)=false:=by simp;omega
 have n1:¬y=0:=by omega
 have n2:¬y≤0:=by omega
 have q0:=Int.ediv_nonneg hl.1 hy.1;have q1:lo / y≤lo:=Int.ediv_le_self _ hl.1;have E1:IntKind.u64.wrap (lo.tdiv y)=lo / y:=by rw[Int.tdiv_eq_ediv_of_nonneg hl.1,w64 q0 (by have:=hl.2;omega)]
 generalize lo / y=q at *;go_enter Tryz.func127,Tryz.ntmps127
 go_wp2;go_region
 all_goals (go_wp2;go_ret2;exact⟨rfl,1,rfl⟩)
theorem Xoj(hi lo y:Int)(hh:Word hi)(hl:Word lo)(hy:Word y)(h:hi<y)(h0:0<hi)(w:World) :
 Calls Tryz.prog 127 #[.int .u64 hi,.int .u64 lo,.int .u64 y] w fun e w'=>e=.returned (.tuple #[.int .u64 ((hi*18446744073709551616+lo) / y),.int .u64 ((hi*18446744073709551616+lo) % y)])∧∃k,w'=w.drewN k:=by
 obtain⟨s,hs,top,top',hlz⟩:=Xww y (by omega) hy.2;obtain⟨u,v,v1,v0,l,d,e,hV,hV1,hV0,hU,hL,hDd,hE,P⟩:=pieces hh.1 hl h hs top top';have z1:¬v1=0:=by have:=P.i1;have:=P.v9;omega
 obtain⟨q,r,hq,hr,G⟩:=Xid P.u0 P.uv P.d0 P.d1 P.v9 P.vw P.i1 P.i0;obtain⟨D,U,D',q',r',hDa,hDb,hU2,U0,U1,hq',hr',G',hF1,hF2⟩:=Xwp P hh.1 hl h;have hD':=Hd hDa;have hE':=Hd hDb;clear hDa hDb;have n0:(y==0)=false:=by simp;omega
 have n1:(hi==0)=false:=by simp;omega
 have n2:¬y≤hi:=by omega
 generalize (hi*18446744073709551616+lo) / y=QQ at *;generalize (hi*18446744073709551616+lo) % y=RR at *;clear top top';go_enter Tryz.func127,Tryz.ntmps127
 go_wp2_with fail;refine(hlz _).mono ?_;rintro e w1 ⟨rfl,rfl⟩;go_wp2_with fail;go_loop [15,16] (fun a b=>∃m n:Int,a=.int .u64 m∧b=.int .u64 n∧Guess u v d v1 m n) (fun a _=>(intOf a).toNat)
 case atStart=>exact⟨_,_,rfl,rfl,G⟩
 case round =>
  obtain⟨m,n,rfl,rfl,g⟩:=hrel;have g0:=g.q0;have g1:=g.q1;have g2:=g.r0;have g3:=g.r1;have p0:=P.i1;have p1:=P.v9;have p2:=P.vw;have p3:=P.d0;have p4:=P.d1;have T:(4294967296≤m∨(m<4294967296∧4294967296*n+d<m*v0))∨(m<4294967296∧m*v0≤4294967296*n+d):=by omega
  have X2:IntKind.u64.wrap (n+v1)=n+v1:=w64 (by omega) (by omega);have X3:IntKind.u64.wrap (4294967296*n)=4294967296*n:=w64 (by omega) (by omega);have X4:IntKind.u64.wrap (4294967296*n+d)=4294967296*n+d:=w64 (by omega) (by omega);rcases T with T | ⟨T1,T2⟩
  ·have TT:4294967296≤m∨4294967296*n+d<m*v0:=by omega
   have gb:=g.big P.u0 P.uv P.d0 P.d1 P.v9 P.i1 P.i0 TT;have gd:=Xcb P.u0 P.uv P.d0 P.d1 P.v9;have X1:IntKind.u64.wrap (m - 1)=m - 1:=w64 (by omega) (by omega);by_cases R:4294967296≤n+v1
   ·have go:=g.out P.u0 P.uv P.d0 P.d1 P.v9 P.i1 P.i0 TT R;have X6:m<4294967296→_:=g.fit P.i0;rw[←hD'.out]at go gb gd;replace X1:=X1.trans go
    clear go gb gd TT g p0 p1 p2 p3 p4 g0 g1 g2 g3;rcases T with T | ⟨T1,T2⟩
    ·clear X3 X4;go_wp2_with fail;go_loop [18,16] (fun a b=>∃m n:Int,a=.int .u64 m∧b=.int .u64 n∧Guess U v e v1 m n) (fun a _=>(intOf a).toNat)
     case atStart=>exact⟨_,_,rfl,rfl,G'⟩
     case round =>
      obtain⟨m,n,rfl,rfl,g⟩:=hrel;have g0:=g.q0;have g1:=g.q1;have g2:=g.r0;have g3:=g.r1;have p0:=P.i1;have p1:=P.v9;have p2:=P.vw;have p3:=P.e0;have p4:=P.e1;have T:(4294967296≤m∨(m<4294967296∧4294967296*n+e<m*v0))∨(m<4294967296∧m*v0≤4294967296*n+e):=by omega
      have X2:IntKind.u64.wrap (n+v1)=n+v1:=w64 (by omega) (by omega);have X3:IntKind.u64.wrap (4294967296*n)=4294967296*n:=w64 (by omega) (by omega);have X4:IntKind.u64.wrap (4294967296*n+e)=4294967296*n+e:=w64 (by omega) (by omega);rcases T with T | ⟨T1,T2⟩
      ·have TT:4294967296≤m∨4294967296*n+e<m*v0:=by omega
       have gb:=g.big U0 U1 P.e0 P.e1 P.v9 P.i1 P.i0 TT;have gd:=Xcb U0 U1 P.e0 P.e1 P.v9;have X1:IntKind.u64.wrap (m - 1)=m - 1:=w64 (by omega) (by omega);by_cases R:4294967296≤n+v1
       ·have go:=g.out U0 U1 P.e0 P.e1 P.v9 P.i1 P.i0 TT R;have X6:m<4294967296→_:=g.fit P.i0;rw[←hE'.out]at go gb gd;replace X1:=X1.trans go
        clear go gb gd TT g p0 p1 p2 p3 p4 g0 g1 g2 g3;rcases T with T | ⟨T1,T2⟩
        ·clear X3 X4;go_wp2_with fail;go_ret2
         exact⟨rfl,0,rfl⟩
        ·replace X6:=X6 T1
         have X5:IntKind.u64.wrap (m*v0)=m*v0:=w64 X6.1 X6.2;clear X6;have T3:¬4294967296≤m:=by omega
         clear T1;go_wp2_with fail;go_ret2
         exact⟨rfl,0,rfl⟩
       ·have g':=g.next U0 U1 P.e0 P.e1 P.v9 P.vw P.i1 P.i0 TT (by omega);have M:(m - 1).toNat<m.toNat:=by omega
        have X6:m<4294967296→_:=g.fit P.i0;clear gb gd TT g p0 p1 p2 p3 p4 g0 g1 g2 g3;rcases T with T | ⟨T1,T2⟩
        ·clear X3 X4 X6;go_wp2;go_round
         case rel=>exact⟨_,_,rfl,rfl,g'⟩
         case measure=>exact M
        ·replace X6:=X6 T1
         have X5:IntKind.u64.wrap (m*v0)=m*v0:=w64 X6.1 X6.2;clear X6;have T3:¬4294967296≤m:=by omega
         clear T1;go_wp2;go_round
         case rel=>exact⟨_,_,rfl,rfl,g'⟩
         case measure=>exact M
      ·have go:=g.done P.v9 P.i1 P.i0 T2;have X6:=g.fit P.i0 T1;have X5:IntKind.u64.wrap (m*v0)=m*v0:=w64 X6.1 X6.2;have T3:¬4294967296≤m:=by omega
       have T4:¬4294967296*n+e<m*v0:=by omega
       rw[←hE'.out]at go;clear g p0 p1 p2 p3 p4 g0 g1 g2 g3 T1 T2 X6;subst go;go_wp2_with fail;go_ret2
       exact⟨rfl,0,rfl⟩
    ·replace X6:=X6 T1
     have X5:IntKind.u64.wrap (m*v0)=m*v0:=w64 X6.1 X6.2;clear X6;have T3:¬4294967296≤m:=by omega
     clear T1;go_wp2_with fail;go_loop [18,16] (fun a b=>∃m n:Int,a=.int .u64 m∧b=.int .u64 n∧Guess U v e v1 m n) (fun a _=>(intOf a).toNat)
     case atStart=>exact⟨_,_,rfl,rfl,G'⟩
     case round =>
      obtain⟨m,n,rfl,rfl,g⟩:=hrel;have g0:=g.q0;have g1:=g.q1;have g2:=g.r0;have g3:=g.r1;have p0:=P.i1;have p1:=P.v9;have p2:=P.vw;have p3:=P.e0;have p4:=P.e1;have T:(4294967296≤m∨(m<4294967296∧4294967296*n+e<m*v0))∨(m<4294967296∧m*v0≤4294967296*n+e):=by omega
      have X2:IntKind.u64.wrap (n+v1)=n+v1:=w64 (by omega) (by omega);have X3:IntKind.u64.wrap (4294967296*n)=4294967296*n:=w64 (by omega) (by omega);have X4:IntKind.u64.wrap (4294967296*n+e)=4294967296*n+e:=w64 (by omega) (by omega);rcases T with T | ⟨T1,T2⟩
      ·have TT:4294967296≤m∨4294967296*n+e<m*v0:=by omega
       have gb:=g.big U0 U1 P.e0 P.e1 P.v9 P.i1 P.i0 TT;have gd:=Xcb U0 U1 P.e0 P.e1 P.v9;have X1:IntKind.u64.wrap (m - 1)=m - 1:=w64 (by omega) (by omega);by_cases R:4294967296≤n+v1
       ·have go:=g.out U0 U1 P.e0 P.e1 P.v9 P.i1 P.i0 TT R;have X6:m<4294967296→_:=g.fit P.i0;rw[←hE'.out]at go gb gd;replace X1:=X1.trans go
        clear go gb gd TT g p0 p1 p2 p3 p4 g0 g1 g2 g3;rcases T with T | ⟨T1,T2⟩
        ·clear X3 X4;go_wp2_with fail;go_ret2
         exact⟨rfl,0,rfl⟩
        ·replace X6:=X6 T1
         have X5:IntKind.u64.wrap (m*v0)=m*v0:=w64 X6.1 X6.2;clear X6;have T3:¬4294967296≤m:=by omega
         clear T1;go_wp2_with fail;go_ret2
         exact⟨rfl,0,rfl⟩
       ·have g':=g.next U0 U1 P.e0 P.e1 P.v9 P.vw P.i1 P.i0 TT (by omega);have M:(m - 1).toNat<m.toNat:=by omega
        have X6:m<4294967296→_:=g.fit P.i0;clear gb gd TT g p0 p1 p2 p3 p4 g0 g1 g2 g3;rcases T with T | ⟨T1,T2⟩
        ·clear X3 X4 X6;go_wp2;go_round
         case rel=>exact⟨_,_,rfl,rfl,g'⟩
         case measure=>exact M
        ·replace X6:=X6 T1
         have X5:IntKind.u64.wrap (m*v0)=m*v0:=w64 X6.1 X6.2;clear X6;have T3:¬4294967296≤m:=by omega
         clear T1;go_wp2;go_round
         case rel=>exact⟨_,_,rfl,rfl,g'⟩
         case measure=>exact M
      ·have go:=g.done P.v9 P.i1 P.i0 T2;have X6:=g.fit P.i0 T1;have X5:IntKind.u64.wrap (m*v0)=m*v0:=w64 X6.1 X6.2;have T3:¬4294967296≤m:=by omega
       have T4:¬4294967296*n+e<m*v0:=by omega
       rw[←hE'.out]at go;clear g p0 p1 p2 p3 p4 g0 g1 g2 g3 T1 T2 X6;subst go;go_wp2_with fail;go_ret2
       exact⟨rfl,0,rfl⟩
   ·have g':=g.next P.u0 P.uv P.d0 P.d1 P.v9 P.vw P.i1 P.i0 TT (by omega);have M:(m - 1).toNat<m.toNat:=by omega
    have X6:m<4294967296→_:=g.fit P.i0;clear gb gd TT g p0 p1 p2 p3 p4 g0 g1 g2 g3;rcases T with T | ⟨T1,T2⟩
    ·clear X3 X4 X6;go_wp2;go_round
     case rel=>exact⟨_,_,rfl,rfl,g'⟩
     case measure=>exact M
    ·replace X6:=X6 T1
     have X5:IntKind.u64.wrap (m*v0)=m*v0:=w64 X6.1 X6.2;clear X6;have T3:¬4294967296≤m:=by omega
     clear T1;go_wp2;go_round
     case rel=>exact⟨_,_,rfl,rfl,g'⟩
     case measure=>exact M
  ·have go:=g.done P.v9 P.i1 P.i0 T2;have X6:=g.fit P.i0 T1;have X5:IntKind.u64.wrap (m*v0)=m*v0:=w64 X6.1 X6.2;have T3:¬4294967296≤m:=by omega
   have T4:¬4294967296*n+d<m*v0:=by omega
   rw[←hD'.out]at go;clear g p0 p1 p2 p3 p4 g0 g1 g2 g3 T1 T2 X6;subst go;go_wp2_with fail;go_loop [18,16] (fun a b=>∃m n:Int,a=.int .u64 m∧b=.int .u64 n∧Guess U v e v1 m n) (fun a _=>(intOf a).toNat)
   case atStart=>exact⟨_,_,rfl,rfl,G'⟩
   case round =>
    obtain⟨m,n,rfl,rfl,g⟩:=hrel;have g0:=g.q0;have g1:=g.q1;have g2:=g.r0;have g3:=g.r1;have p0:=P.i1;have p1:=P.v9;have p2:=P.vw;have p3:=P.e0;have p4:=P.e1;have T:(4294967296≤m∨(m<4294967296∧4294967296*n+e<m*v0))∨(m<4294967296∧m*v0≤4294967296*n+e):=by omega
    have X2:IntKind.u64.wrap (n+v1)=n+v1:=w64 (by omega) (by omega);have X3:IntKind.u64.wrap (4294967296*n)=4294967296*n:=w64 (by omega) (by omega);have X4:IntKind.u64.wrap (4294967296*n+e)=4294967296*n+e:=w64 (by omega) (by omega);rcases T with T | ⟨T1,T2⟩
    ·have TT:4294967296≤m∨4294967296*n+e<m*v0:=by omega
     have gb:=g.big U0 U1 P.e0 P.e1 P.v9 P.i1 P.i0 TT;have gd:=Xcb U0 U1 P.e0 P.e1 P.v9;have X1:IntKind.u64.wrap (m - 1)=m - 1:=w64 (by omega) (by omega);by_cases R:4294967296≤n+v1
     ·have go:=g.out U0 U1 P.e0 P.e1 P.v9 P.i1 P.i0 TT R;have X6:m<4294967296→_:=g.fit P.i0;rw[←hE'.out]at go gb gd;replace X1:=X1.trans go
      clear go gb gd TT g p0 p1 p2 p3 p4 g0 g1 g2 g3;rcases T with T | ⟨T1,T2⟩
      ·clear X3 X4;go_wp2_with fail;go_ret2
       exact⟨rfl,0,rfl⟩
      ·replace X6:=X6 T1
       have X5:IntKind.u64.wrap (m*v0)=m*v0:=w64 X6.1 X6.2;clear X6;have T3:¬4294967296≤m:=by omega
       clear T1;go_wp2_with fail;go_ret2
       exact⟨rfl,0,rfl⟩
     ·have g':=g.next U0 U1 P.e0 P.e1 P.v9 P.vw P.i1 P.i0 TT (by omega);have M:(m - 1).toNat<m.toNat:=by omega
      have X6:m<4294967296→_:=g.fit P.i0;clear gb gd TT g p0 p1 p2 p3 p4 g0 g1 g2 g3;rcases T with T | ⟨T1,T2⟩
      ·clear X3 X4 X6;go_wp2;go_round
       case rel=>exact⟨_,_,rfl,rfl,g'⟩
       case measure=>exact M
      ·replace X6:=X6 T1
       have X5:IntKind.u64.wrap (m*v0)=m*v0:=w64 X6.1 X6.2;clear X6;have T3:¬4294967296≤m:=by omega
       clear T1;go_wp2;go_round
       case rel=>exact⟨_,_,rfl,rfl,g'⟩
       case measure=>exact M
    ·have go:=g.done P.v9 P.i1 P.i0 T2;have X6:=g.fit P.i0 T1;have X5:IntKind.u64.wrap (m*v0)=m*v0:=w64 X6.1 X6.2;have T3:¬4294967296≤m:=by omega
     have T4:¬4294967296*n+e<m*v0:=by omega
     rw[←hE'.out]at go;clear g p0 p1 p2 p3 p4 g0 g1 g2 g3 T1 T2 X6;subst go;go_wp2_with fail;go_ret2
     exact⟨rfl,0,rfl⟩
theorem div64(hi lo y:Int)(hh:Word hi)(hl:Word lo)(hy:Word y)(h:hi<y)(w:World) :
 Calls Tryz.prog 127 #[.int .u64 hi,.int .u64 lo,.int .u64 y] w fun e w'=>e=.returned (.tuple #[.int .u64 ((hi*18446744073709551616+lo) / y),.int .u64 ((hi*18446744073709551616+lo) % y)])∧∃k,w'=w.drewN k:=by
 by_cases h0:hi=0
 ·subst h0;have:=Xrf lo y hl hy h w;simpa using this
 ·exact Xoj hi lo y hh hl hy h (by have:=hh.1;omega) w
def cap(x:Int):Int:=if 18446744073709551615<x then 18446744073709551615 else x
def held(zs:List Int):Int:=cap zs.sum
theorem Xel{x:Int}(h:0≤x):Word (cap x):=by unfold cap;split <;> exact⟨by omega,by omega⟩
theorem Xm4{x y:Int}(h:0≤y):cap (cap x+y)=cap (x+y):=by unfold cap;repeat' split <;> omega
theorem Xf4{zs:List Int}(h:∀z ∈ zs,Word z):0≤zs.sum:=by
 induction zs with
 | nil=>simp
 | cons a t ih =>
  have:=(h a (by simp)).1;have:=ih (fun z hz=>h z (by simp[hz]));simp;omega
theorem Xkm{zs:List Int}(h:∀z ∈ zs,Word z):Word (held zs):=Xel (Xf4 h)
theorem Xnh(zs:List Int)(j:Nat)(h:j<zs.length):(zs.take (j+1)).sum=(zs.take j).sum+zs.getD j 0:=by
 rw[List.take_succ_eq_append_getElem h,List.sum_append,List.getD_eq_getElem?_getD,List.getElem?_eq_getElem h];simp
theorem Xhq{zs:List Int}(h:∀z ∈ zs,Word z)(j:Nat):Word (zs.getD j 0):=by
 rw[List.getD_eq_getElem?_getD];by_cases hi:j<zs.length
 ·rw[List.getElem?_eq_getElem hi];exact h _ (List.getElem_mem hi)
 ·rw[List.getElem?_eq_none (by omega)];exact⟨by simp,by simp⟩
theorem Xic{zs:List Int}(h:∀z ∈ zs,Word z)(j:Nat):∀z ∈ zs.take j,Word z:=fun z hz=>h z (List.mem_of_mem_take hz)
theorem Xs3{zs:List Int}(h:∀z ∈ zs,Word z)(j:Nat)(hj:j<zs.length):held (zs.take (j+1))=cap (held (zs.take j)+zs.getD j 0):=by
 unfold held;rw[Xnh zs j hj,Xm4 (Xhq h j).1]
theorem cv_at{k:IntKind}{zs:List Int}{i:Nat}(h:i<zs.length):(cv k zs)[i]?=some (.int k (zs.getD i 0)):=by
 rw[show(cv k zs)[i]?=zs[i]?.map (Value.int k) by simp[cv],List.getD_eq_getElem?_getD,List.getElem?_eq_getElem h];rfl
theorem Sees.num{w:World}{B n:Nat}{A:Option Addr}{k:IntKind}{zs:List Int}{i:Nat}(h:Sees w B A n (cv k zs))(hi:i<n):∃a,A=some a∧a.block<B∧w.cell? (a.add i)=some (.int k (zs.getD i 0)):=by
 obtain⟨a,u,e,hb,hx,hc⟩:=h.at_ hi;have hl:i<zs.length:=by have:=h.len;rw[Xdj]at this;omega
 rw[cv_at hl]at hx;cases hx
 exact⟨a,e,hb,hc⟩
theorem add_(x a:Int)(B:Nat)(w:World)(hx:Word x)(ha:Word a)(hr:Row w B 44 [.int .u64 a]) :
 Calls Tryz.prog 124 #[.int .u64 x,.pointer (some ⟨B,0,none⟩)] w fun e w'=>e=.returned (.tuple #[])∧w'=w.setCell ⟨B,0,none⟩ (.int .u64 (cap (a+x))):=by
 have c0:=hr.cell 0;have f0:=hr.frozen 0;simp at c0;have s1:=add64 a x ha hx;by_cases h:18446744073709551615<a+x
 ·have e1:(a+x) / 18446744073709551616=1:=by have:=ha.2;have:=hx.2;omega
  have e2:=Hd (show cap (a+x)=18446744073709551615 by unfold cap;rw[if_pos h]);rw[e1]at s1;clear e1 h;go_enter Tryz.func124,Tryz.ntmps124
  go_wp2_with (simp only[s1])
  go_end0
  rw[e2.out];exact⟨rfl,rfl⟩
 ·have e1:(a+x) / 18446744073709551616=0:=by have:=ha.1;have:=hx.1;omega
  have e3:(a+x) % 18446744073709551616=a+x:=by have:=ha.1;have:=hx.1;omega
  have e2:=Hd (show cap (a+x)=a+x by unfold cap;rw[if_neg h]);rw[e1,e3]at s1;clear e1 h e3;go_enter Tryz.func124,Tryz.ntmps124
  go_wp2_with (simp only[s1])
  go_end0
  rw[e2.out];exact⟨rfl,rfl⟩
theorem sum_(A:Option Addr)(n c:Nat)(zs:List Int)(w:World)(S:Nat)(hx:Sees w S A n (cv .u64 zs))(hS:S≤w.heap.size)(hn:n≤maxLen)(hz:∀z ∈ zs,Word z) :
 Calls Tryz.prog 76 #[.slice A n c] w fun e w'=>e=.returned (.int .u64 (held zs))∧Below w.heap.size w w':=by
 unfold maxLen at hn;have lx:=Hd (show zs.length=n by have:=hx.len;rwa [Xdj]at this);have hx:=hx.more hS;have b0:Below w.heap.size w (w.alloc (.cells #[.int .u64 0] 44)):=(Br _ _).alloc (Lr _) _;have R0:=Row.new w 44 [.int .u64 0];generalize hB:w.heap.size=B at *;go_enter Tryz.func76,Tryz.ntmps76
 go_wp2;go_loopw [6,10] (fun _ i wr=>∃j:Nat,j≤n∧i=.int .i64 j∧Row wr B 44 [.int .u64 (held (zs.take j))]∧Below B w wr) (fun _ i _=>n - (intOf i).toNat)
 case atStart=>exact⟨0,Nat.zero_le _,rfl,by simpa [held,cap]using R0,b0⟩
 case round =>
  obtain⟨j,hj,rfl,hr,hbr⟩:=hrel;by_cases hlt:j<n
  ·obtain⟨a,rfl,ha,hca⟩:=(hx.below hbr).num hlt;have wz:=Xhq hz j;have E:=Hd (Xs3 hz j (by have:=lx.out;omega));have C:=add_ (zs.getD j 0) (held (zs.take j)) B wr wz (Xkm (Xic hz j)) hr;have M:=Hd hr;clear hr wz;generalize zs.getD j 0=z at *;generalize held (zs.take j)=hd at *;go_wp2_with fail;refine C.mono ?_;rintro e w1 ⟨rfl,rfl⟩;have R1:=M.out.set_ 0 (.int .u64 (cap (hd+z)));rw[←E.out]at R1;go_wp2;go_roundw
   case rel =>
    refine⟨j+1,by omega,by go_num,?_,hbr.setCell (Lr _) _⟩;rw[E.out]at R1 ⊢;exact R1
   case measure=>simp[intOf];omega
  ·have hj:j=n:=by omega
   have hn:¬n<n:=by omega
   subst hj;have E:=Hd (show held (zs.take j)=held zs by rw[List.take_of_length_le (by have:=lx.out;omega)]);have c0:=hr.cell 0;simp at c0;clear hr;go_wp2;go_ret;rw[E.out];exact⟨rfl,hbr⟩
def times(a b d:Int)(up:Bool):Int:=
 if d≤a*b / 18446744073709551616 then 18446744073709551615 else if up=true∧0<a*b % d then cap (a*b / d+1)else a*b / d
theorem Xhy{N d:Int}(hN:0≤N)(h:¬d≤N / 18446744073709551616):Word (N / d)∧0≤N % d∧N % d<d:=by
 have h0:0<d:=by omega
 refine⟨⟨Int.ediv_nonneg hN (by omega),Int.ediv_lt_of_lt_mul h0 (by omega)⟩,Int.emod_nonneg _ (by omega),Int.emod_lt_of_pos _ h0⟩
theorem Xgd(x y:Int)(g:Nat)(w:World)(hx:Word x)(hy:Word y)(hr:Row w g 44 [.int .u64 x,.int .u64 y]) :
 Calls Tryz.prog 76 #[.slice (some ⟨g,0,none⟩) 2 2] w fun e w'=>e=.returned (.int .u64 (cap (x+y)))∧Below w.heap.size w w':=by
 have hs:=hr.sees0;refine(sum_ _ 2 2 [x,y] w _ hs (Lr _) (by simp[maxLen]) ?_).mono ?_
 ·intro z hz;simp at hz;rcases hz with rfl | rfl
  ·exact hx
  ·exact hy
 ·rintro e w' ⟨rfl,hb⟩;exact⟨by simp[held],hb⟩
theorem Xna(a b d:Int)(up:Bool)(w:World)(ha:Word a)(hb:Word b)(hd:Word d) :
 Calls Tryz.prog 78 #[.int .u64 a,.int .u64 b,.int .u64 d,.bool up] w fun e w'=>e=.returned (.int .u64 (times a b d up))∧Below w.heap.size w w':=by
 have M:=fun w=>mul_ a b ha hb w
 have p:=Xcq ha hb;have hh:=Xtc ha hb;have hl:=Xjq (a*b);by_cases h:d≤a*b / 18446744073709551616
 ·have E:=Hd (show times a b d up=18446744073709551615 by unfold times;rw[if_pos h]);generalize a*b / 18446744073709551616=hi at *;generalize a*b % 18446744073709551616=lo at *;go_enter Tryz.func78,Tryz.ntmps78
  go_wp2_with fail;refine(M _).mono ?_;rintro e w1 ⟨rfl,rfl⟩;go_wp2;go_ret;rw[E.out];exact⟨rfl,Br _ _⟩
 ·obtain⟨q0,r0,r1⟩:=Xhy p.1 h;have D:=fun w=>div64 _ _ d hh hl hd (by omega) w
  have EN:a*b / 18446744073709551616*18446744073709551616+a*b % 18446744073709551616=a*b:=by omega
  rw[EN]at D;clear EN;have E:=Hd (show times a b d up=if up=true∧0<a*b % d then cap (a*b / d+1)else a*b / d by unfold times;rw[if_neg h]);have h2:¬d≤a*b / 18446744073709551616:=h;clear h hh hl;generalize a*b / 18446744073709551616=hi at *;generalize a*b % 18446744073709551616=lo at *;generalize a*b / d=q at *;generalize a*b % d=r at *;have hs:∀k,Below w.heap.size w (w.drewN k):=fun k=>below_drewN (Br _ _) k
  cases up
  ·go_enter Tryz.func78,Tryz.ntmps78
   go_wp2_with fail;refine(M _).mono ?_;rintro e w1 ⟨rfl,rfl⟩;go_wp2_with fail;refine(D _).mono ?_;rintro e w1 ⟨rfl,k,rfl⟩;go_wp2;go_ret;rw[E.out];exact⟨by simp,hs k⟩
  ·by_cases h0:0<r
   ·go_enter Tryz.func78,Tryz.ntmps78
    go_wp2_with fail;refine(M _).mono ?_;rintro e w1 ⟨rfl,rfl⟩;go_wp2_with fail;refine(D _).mono ?_;rintro e w1 ⟨rfl,k,rfl⟩;go_wp2_with fail;refine(Xgd q 1 _ _ q0 (Xu9 (by omega) (by omega)) (Row.new' _ _ _ (by simp))).mono ?_;rintro e w1 ⟨rfl,hb⟩;have hbb:=((hs k).alloc (Lr _) (.cells #[.int .u64 q,.int .u64 1] 44));have hb2:=hbb.trans (hb.mono hbb.size);clear hb hbb;go_wp2;go_ret;rw[E.out,if_pos (by simp[h0])];exact⟨rfl,hb2⟩
   ·go_enter Tryz.func78,Tryz.ntmps78
    go_wp2_with fail;refine(M _).mono ?_;rintro e w1 ⟨rfl,rfl⟩;go_wp2_with fail;refine(D _).mono ?_;rintro e w1 ⟨rfl,k,rfl⟩;go_wp2;go_ret;rw[E.out,if_neg (by omega)];exact⟨rfl,hs k⟩
def dat9(l:List LIn):Nat:=(l.map fun i=>i.dat.length).sum
def each9(n c:Int):Int:=times (max n 0) c 1 false
def parts9(ns d:Nat)(wr u:Int):List Int:=[each9 ns 720,each9 wr 300,(d:Int) / 4,u]
def cost9(ns d:Nat)(wr u:Int):Int:=held (parts9 ns d wr u)
theorem Xl1{l:List LIn}{k:Nat}{x:LIn}(h:l[k]?=some x):dat9 (l.take (k+1))=dat9 (l.take k)+x.dat.length:=by
 obtain⟨hk,rfl⟩:=List.getElem?_eq_some_iff.1 h;unfold dat9;rw[List.take_succ_eq_append_getElem hk,List.map_append,List.sum_append];simp
theorem Xi3(l:List LIn)(k:Nat):dat9 (l.take k)≤dat9 l:=by
 unfold dat9;have h:=congrArg (fun l=>(l.map fun i:LIn=>i.dat.length).sum) (List.take_append_drop k l);simp only[List.map_append,List.sum_append]at h;omega
theorem Xj5{n c:Int}(hn:n<18446744073709551616)(hc:Word c):Word (each9 n c):=by
 unfold each9 times;have ha:Word (max n 0):=⟨by omega,by omega⟩;have hp:=Xcq ha hc;split
 ·exact⟨by decide,by decide⟩
 ·rw[if_neg (by simp)];rename_i h
  exact(Xhy hp.1 h).1
theorem Xie{ns d:Nat}{wr u:Int}(h1:(ns:Int)<18446744073709551616)(h2:(d:Int)<18446744073709551616)(h3:wr<18446744073709551616)(h4:Word u):∀z ∈ parts9 ns d wr u,Word z:=by
 intro z hz;simp only[parts9,List.mem_cons,List.not_mem_nil,or_false]at hz;rcases hz with rfl | rfl | rfl | rfl
 ·exact Xj5 h1 ⟨by decide,by decide⟩
 ·exact Xj5 h3 ⟨by decide,by decide⟩
 ·exact⟨by omega,by omega⟩
 ·exact h4
theorem each_(n c:Int)(w:World)(hn:n<9223372036854775808)(hn' : -9223372036854775808≤n)(hc:Word c) :
 Calls Tryz.prog 122 #[.int .i64 n,.int .u64 c] w fun e w'=>e=.returned (.int .u64 (each9 n c))∧Below w.heap.size w w':=by
 have T:=Hd (fun w=>Xna (max n 0) c 1 false w ⟨by omega,by omega⟩ hc ⟨by decide,by decide⟩);have C:Hid (each9 n c=times (max n 0) c 1 false):=Hd rfl;have HN:=Hd hn;have HN':=Hd hn';rw[C.out];clear hn hn' C;by_cases h:n≤0
 ·have e:max n 0=0:=by omega
  rw[e]at T ⊢;go_enter Tryz.func122,Tryz.ntmps122
  go_wp2_with fail;refine(T.out _).mono ?_;rintro e w' ⟨rfl,hb⟩;go_wp2;go_ret;exact⟨rfl,hb⟩
 ·have h':0<n:=by omega
  have e:max n 0=n:=by omega
  have e2:IntKind.u64.wrap n=n:=by rw[IntKind.wrap_u64];have:=HN.out;omega
  rw[e]at T ⊢;clear h;go_enter Tryz.func122,Tryz.ntmps122
  go_wp2_with fail;refine(T.out _).mono ?_;rintro e w' ⟨rfl,hb⟩;go_wp2;go_ret;exact⟨rfl,hb⟩
theorem data_(A:Option Addr)(n c B:Nat)(l:List LIn)(w:World)(hin:InsIn w B A n l)(hB:B≤w.heap.size)(hn:n≤4000)(hd:dat9 l≤4000) :
 Calls Tryz.prog 123 #[.slice A n c] w fun e w'=>e=.returned (.int .u64 (dat9 l:Nat))∧Below w.heap.size w w':=by
 have HIN:=Hd hin;have HD:=Hd hd;have HBB:=Hd hB;have HL:=Hd hin.len;clear hin hd hB;go_enter Tryz.func123,Tryz.ntmps123
 go_wp2;go_loopw [3,8] (fun s i wr=>∃k:Nat,k≤n∧i=.int .i64 k∧s=.int .u64 (dat9 (l.take k):Nat)∧Below w.heap.size w wr) (fun _ i _=>n - (intOf i).toNat)
 case atStart=>exact⟨0,Nat.zero_le _,rfl,rfl,Br _ _⟩
 case round =>
  obtain⟨k,hk,rfl,rfl,hbel⟩:=hrel;have HBL:=Hd hbel;clear hbel;by_cases hlt:k<n
  ·obtain⟨a,x,va,vd,rfl,hab,hx,hat⟩:=(HIN.out.below (HBL.out.mono HBB.out)).get hlt;have HS:=Hd (Xl1 hx);have hs1:=Xi3 l (k+1);have hs2:=Xi3 l k;have hs3:=HD.out;have HAC:=Hd hat.cells;obtain⟨DA,dc,hvd,hds,hdn,hdm⟩:=hat.dat.is;subst hvd;have HSI:=Hd (Xbj x.p va (.slice DA x.dat.length dc));have HI1:=Hd (Xcg (p:=x.p) hat.acc hat.dat);have HI3:Hid ((inCells x.p va (.slice DA x.dat.length dc)).length=3):=Hd rfl;have HI2:Hid ((inCells x.p va (.slice DA x.dat.length dc))[2]?=some (.slice DA x.dat.length dc)):=Hd rfl;have hs4:dat9 (l.take k)+x.dat.length≤4000:=by have:=HS.out;omega
   have e1:IntKind.u64.wrap (x.dat.length:Nat)=(x.dat.length:Nat):=by rw[IntKind.wrap_u64];omega
   have HC:Hid (cap ((dat9 (l.take k):Nat)+(x.dat.length:Nat))=(dat9 (l.take (k+1)):Nat)):=Hd (by unfold cap;rw[if_neg (by omega),HS.out];omega);clear hat hab hx hds hdn hdm hs1 hs3;generalize inCells x.p va (.slice DA x.dat.length dc)=IC at *;generalize x.dat.length=m at *;generalize dat9 (l.take k)=s at *;go_wp2_with (first
    | ((with_reducible show wpList _ _ _ (⟨some 11,_,_,_,_,_⟩::_) _ _);go_must(refine Xa3 rfl 131 (.tmp 10) rfl (a.add (k*3)) IC _ Tryz.underlying131 rfl HSI.out HAC.out ?_ ?_;go_simp))
    | ((with_reducible show wpList _ _ _ (⟨none,Op.store 131 _ _,_,_,_,_⟩::_) _ _);go_must(refine Xa1 rfl 131 (.tmp 5) (.tmp 11) rfl IC HSI.out HI1.out (by rw[HI3.out];rfl) ?_ ?_ ?_;go_simp;go_simp;intro w2 hr2 hb2 hz2;have B2:=Hd hb2;have d4:=(hr2.cell 2).trans HI2.out;clear hr2 hb2 hz2)))
   refine(Xgd s m _ _ ⟨by omega,by omega⟩ ⟨by omega,by omega⟩ (Row.new' _ _ _ (by simp))).mono ?_;rintro e w3 ⟨rfl,hb3⟩;rw[HC.out];have hbb:=B2.out.alloc B2.out.size (.cells #[.int .u64 s,.int .u64 m] 44);have HB3:=Hd (HBL.out.trans ((hbb.trans (hb3.mono hbb.size)).mono HBL.out.size));clear hb3 hbb d4;go_wp2_with fail;go_roundw
   case rel=>exact⟨k+1,by omega,by go_num,rfl,HB3.out⟩
   case measure=>simp[intOf];omega
  ·obtain rfl:k=n:=by omega
   have e:l.take k=l:=List.take_of_length_le (by have:=HL.out;omega);rw[e];go_wp2;go_ret;exact⟨rfl,HBL.out⟩
theorem Xhw{n c:Int}(hn:0≤n)(hc:0≤c)(h:n*c<18446744073709551616):each9 n c=n*c:=by
 unfold each9 times;have e:max n 0=n:=by omega
 have hp:0≤n*c:=Int.mul_nonneg hn hc;rw[e,if_neg (by omega),if_neg (by simp)];omega
theorem Xt0(a b c d:Int):held [a,b,c,d]=cap (a+b+c+d):=by
 unfold held;simp only[List.sum_cons,List.sum_nil];congr 1
 omega
theorem Xva{ns d:Nat}{wr u:Int}(h1:ns≤4000)(h2:0≤wr)(h3:wr≤70000):cost9 ns d wr u=cap (720*(ns:Int)+300*wr+(d:Int) / 4+u):=by
 unfold cost9 parts9;rw[Xhw (by omega) (by omega) (by omega),Xhw h2 (by omega) (by omega),Xt0];congr 1
 omega
theorem Xja(a b d:Int)(up:Bool)(ha:Word a)(hb:Word b)(hd:Word d):Word (times a b d up):=by
 unfold times;have p:=Xcq ha hb;split
 ·exact⟨by omega,by omega⟩
 ·next h =>
  obtain⟨q,_,_⟩:=Xhy p.1 h;split
  ·exact Xel (by have:=q.1;omega)
  ·exact q
def base10(n:Int):Int:=times (max n 0) 5000 1 false
def offer10(p u:Int):Int:=times p u 1000000 true
def fee10(n p u:Int):Int:=cap (base10 n+offer10 p u)
def pri10(n p u c:Int):Int:=times (cap (base10 n / 2+offer10 p u)) 1000000 (cap (c+1)) false
theorem Xce{n:Int}(h:n<18446744073709551616):Word (base10 n):=Xja _ _ _ _ ⟨by omega,by omega⟩ ⟨by decide,by decide⟩ ⟨by decide,by decide⟩
theorem Xcl{p u:Int}(hp:Word p)(hu:Word u):Word (offer10 p u):=Xja _ _ _ _ hp hu ⟨by decide,by decide⟩
theorem Xny{n p u:Int}(hn:n<18446744073709551616)(hp:Word p)(hu:Word u):Word (fee10 n p u):=
 Xel (by have:=(Xce hn).1;have:=(Xcl hp hu).1;omega)
theorem Xi1{x:Int}(h:Word x):Word (x / 2):=⟨by have:=h.1;omega,by have:=h.2;have:=h.1;omega⟩
theorem Xil{n p u:Int}(hn:n<18446744073709551616)(hp:Word p)(hu:Word u):Word (cap (base10 n / 2+offer10 p u)):=
 Xel (by have:=(Xi1 (Xce hn)).1;have:=(Xcl hp hu).1;omega)
theorem Xik{c:Int}(hc:Word c):Word (cap (c+1)):=Xel (by have:=hc.1;omega)
theorem Xx6{x:LTx}(hf:TFits x)(hw:x.Wf)(hl:(encTx x).length≤1232):wTx (encTx x)=.ok x:=by
 have h:=Xw6 hf hw [];rw[List.append_nil]at h;unfold wTx;rw[if_neg (by omega),h];rfl
open Go.RowKit Go.Shelf
attribute [local go_sem] Oper.semAt_some
abbrev W64:={ x:Int // Word x }
structure But9(N b:Nat)(W W':World):Prop where
 size:W.heap.size≤W'.heap.size
 block:∀k,k<N→k≠b→W'.heap[k]?=W.heap[k]?
theorem But9.trans{N b:Nat}{A B C:World}(h:But9 N b A B)(k:But9 N b B C):But9 N b A C:=
 ⟨Lq h.size k.size,fun i hi hb=>(k.block i hi hb).trans (h.block i hi hb)⟩
theorem But9.of_below{N b B:Nat}{W W':World}(h:Below B W W')(hN:N≤B):But9 N b W W':=⟨h.size,fun k hk _=>h.block k (by omega)⟩
theorem But9.put{N b:Nat}{w:World}(hN:N≤w.heap.size)(W:World)(l:Nat)(o o':Obj)(hl:w.heap.size≤l)(h:W.heap[l]?=some o)(_:o.isCells=false)(_:o.isWalk=false):But9 N b W (W.putObj l o'):=
 ⟨by simp,fun k hk _=>World.putObj_heap_other (by omega)⟩
structure Src9(w:World)(N B b bx bw bu ns n:Nat)(SA A:Option Addr)(sc c:Nat)(l:List LIn)(wr u:Int):Prop where
 c0:w.cell? ⟨bx,0,none⟩=some (.slice SA ns sc)
 c38:w.cell? ⟨bx,38,none⟩=some (.slice A n c)
 cw:w.cell? ⟨bw,0,none⟩=some (.int .i64 wr)
 cu:w.cell? ⟨bu,0,none⟩=some (.int .u64 u)
 ins:InsIn w B A n l
 lx:bx<N∧bx≠b
 lw:bw<N∧bw≠b
 lu:bu<N∧bu≠b
 lB:B≤b∧B≤N
theorem Src9.keep{w w':World}{N B b bx bw bu ns n sc c:Nat}{SA A:Option Addr}{l:List LIn}{wr u:Int}(h:Src9 w N B b bx bw bu ns n SA A sc c l wr u)(k:But9 N b w w'):Src9 w' N B b bx bw bu ns n SA A sc c l wr u:=
 ⟨(World.cell?_of_block (k.block _ h.lx.1 h.lx.2)).trans h.c0,(World.cell?_of_block (k.block _ h.lx.1 h.lx.2)).trans h.c38,(World.cell?_of_block (k.block _ h.lw.1 h.lw.2)).trans h.cw,(World.cell?_of_block (k.block _ h.lu.1 h.lu.2)).trans h.cu,
  h.ins.keep (fun p hp=>World.cell?_of_block (k.block _ (by have:=h.lB.2;omega) (by have:=h.lB.1;omega))),h.lx,h.lw,h.lu,h.lB⟩
theorem Xjc{W W':World}(h:Below W.heap.size W W'):W.grownBy W' none:=⟨h.os,h.tape,h.output,h.size,fun k hk _=>h.block k hk⟩
theorem Xge{β:Type}{B:Nat}{J:β→World→Prop}(h:AbidesFrom B J){s:β}{W W':World}(hs:J s W)(hb:Below W.heap.size W W'):J s W':=h s W W' none hs (Xjc hb) (fun r e=>by cases e)
theorem Xl9(m:Nat)(hm:1≤m)(w:World)(N B b bx bw bu ns n:Nat)(SA A:Option Addr)(sc c:Nat)(l:List LIn)(wr u:Int)(h:Src9 w N B b bx bw bu ns n SA A sc c l wr u)(hN:N≤w.heap.size)
 (h1:ns≤4000) (h2:n≤4000) (h3:dat9 l≤4000) (h4 : -9223372036854775808≤wr) (h5:wr<9223372036854775808) (h6:Word u) :
 SeqStopsK Fence.wide m Tryz.prog 121 #[.pointer (some ⟨bx,0,none⟩),.pointer (some ⟨bw,0,none⟩),.pointer (some ⟨bu,0,none⟩)] (fun x:W64=>#[.int .u64 x.1]) (But9 N b)
  (fun xs=>xs.map (·.1)=parts9 ns (dat9 l) wr u) (fun _=>True) 4 w:=by
 intro lp J Jx W hW hJ hJx hY h0;have hs:=h.keep (But9.of_below hW hN);have hNW:N≤W.heap.size:=Lq hN hW.size;have HW:=Xie (ns:=ns) (d:=dat9 l) (wr:=wr) (u:=u) (by omega) (by omega) (by omega) h6;have hw0:=HW (each9 ns 720) (by simp[parts9]);have hw1:=HW (each9 wr 300) (by simp[parts9]);have hw2:=HW ((dat9 l:Int) / 4) (by simp[parts9]);have P0:=Hd (fun W=>each_ ns 720 W (by omega) (by omega) ⟨by decide,by decide⟩);have P1:=Hd (fun W=>each_ wr 300 W (by omega) (by omega) ⟨by decide,by decide⟩);have HU:=Hd h6;have HY:=Hd hY;have HS0:=Hd hs.c0;have HP:Hid (parts9 ns (dat9 l) wr u=[each9 ns 720,each9 wr 300,(dat9 l:Int) / 4,u]):=Hd rfl;rw[HP.out];have d0:=hs.c0;generalize each9 ns 720=p0 at *;generalize each9 wr 300=p1 at *;refine callsIn_of_wp Tryz.func121 rfl trivial ?_ rfl;simp only[Tryz.ntmps121,List.size_toArray,List.length_cons,List.length_nil,Nat.reduceAdd,Nat.reduceSub,Array.replicate_succ,Array.replicate_zero,List.push_toArray,List.append_toArray,List.nil_append,List.cons_append];have h16:Fence.wide.fn 122:=trivial;have h17:Fence.wide.fn 123:=trivial;gi_wp2_with fail
 refine(callsIn_wide.2 (P0.out W)).mono ?_;rintro e W1 ⟨rfl,hb1⟩;have HS1:=Hd (hs.keep (But9.of_below hb1 hNW));have hJ1:=Xge hJ h0 hb1;have HN1:=Hd (Lq hNW hb1.size);obtain⟨f1,t1,a1,b1,hy1,hR1⟩:=HY.out [] ⟨p0,hw0⟩ W1 hJ1 (by simp);clear hb1 hJ1;gi_wp2_with fail
 refine hR1.mono ?_;rintro e W2 (⟨rfl,hJ2,hk2⟩ | ⟨rfl,hx2⟩)
 ·have HS2:=Hd (HS1.out.keep hk2);have HN2:=Hd (Lq HN1.out hk2.size);have d2:=HS2.out.cw;clear hk2 hR1 hy1 d0;gi_wp2_with fail
  refine(callsIn_wide.2 (P1.out W2)).mono ?_;rintro e W3 ⟨rfl,hb3⟩;have HS3:=Hd (HS2.out.keep (But9.of_below hb3 HN2.out));have hJ3:=Xge hJ hJ2 hb3;have HN3:=Hd (Lq HN2.out hb3.size);obtain⟨f3,t3,a3,b3,hy3,hR3⟩:=HY.out _ ⟨p1,hw1⟩ W3 hJ3 (by simp);clear hb3 hJ3 d2;gi_wp2_with fail
  refine hR3.mono ?_;rintro e W4 (⟨rfl,hJ4,hk4⟩ | ⟨rfl,hx4⟩)
  ·have HS4:=Hd (HS3.out.keep hk4);have HN4:=Hd (Lq HN3.out hk4.size);have d4:=HS4.out.c38;clear hk4 hR3 hy3;gi_wp2_with fail
   refine(callsIn_wide.2 (data_ A n c B l W4 HS4.out.ins (by have:=HS4.out.lB;have:=HN4.out;omega) h2 h3)).mono ?_;rintro e W5 ⟨rfl,hb5⟩;have HS5:=Hd (HS4.out.keep (But9.of_below hb5 HN4.out));have hJ5:=Xge hJ hJ4 hb5;have HN5:=Hd (Lq HN4.out hb5.size);obtain⟨f5,t5,a5,b5,hy5,hR5⟩:=HY.out _ ⟨(dat9 l:Int) / 4,hw2⟩ W5 hJ5 (by simp);clear hb5 hJ5 d4;gi_wp2_with fail
   refine hR5.mono ?_;rintro e W6 (⟨rfl,hJ6,hk6⟩ | ⟨rfl,hx6⟩)
   ·have HS6:=Hd (HS5.out.keep hk6);have d6:=HS6.out.cu;obtain⟨f7,t7,a7,b7,hy7,hR7⟩:=HY.out _ ⟨u,HU.out⟩ W6 hJ6 (by simp);clear hk6 hR5 hy5;gi_wp2_with fail
    refine hR7.mono ?_;rintro e W8 (⟨rfl,hJ8,hk8⟩ | ⟨rfl,hx8⟩)
    ·gi_wp2
     go_end0
     exact⟨⟨_,rfl⟩,.inl ⟨_,rfl,hJ8⟩⟩
    ·gi_wp2
     go_end0
     exact⟨⟨_,rfl⟩,.inr ⟨_,trivial,hx8⟩⟩
   ·gi_wp2_with (refine⟨fun _ _=>trivial,?_⟩)
    go_end0
    exact⟨⟨_,rfl⟩,.inr ⟨_,trivial,hx6⟩⟩
  ·gi_wp2_with (refine⟨fun _ _=>trivial,?_⟩)
   go_end0
   exact⟨⟨_,rfl⟩,.inr ⟨_,trivial,hx4⟩⟩
 ·gi_wp2_with (refine⟨fun _ _=>trivial,?_⟩)
  go_end0
  exact⟨⟨_,rfl⟩,.inr ⟨_,trivial,hx2⟩⟩
attribute [local go_sem] Oper.semAt_some
theorem Xtt:(Tryz.prog.info? 42).map (·.size)=some 40:=by kernel_rfl
theorem Xw9(cs:List Value)(wr u:Int)(w:World) :
 Calls Tryz.prog 75 #[.agg cs.toArray,.int .i64 wr,.int .u64 u] w fun e w' =>
  e=.returned (.func (.func 121) #[] #[.pointer (some ⟨w.heap.size,0,none⟩),.pointer (some ⟨w.heap.size+1,0,none⟩),.pointer (some ⟨w.heap.size+2,0,none⟩)]) ∧
  w'=((w.alloc (.cells cs.toArray 42)).alloc (.cells #[.int .i64 wr] 3)).alloc (.cells #[.int .u64 u] 44):=by
 go_enter Tryz.func75,Tryz.ntmps75
 go_wp2;go_ret;exact⟨rfl,rfl⟩
def vals9(pre:List W64):List Int:=pre.map (·.1)
theorem Xoe(pre:List W64):∀z ∈ vals9 pre,Word z:=by
 intro z hz;obtain⟨x,_,rfl⟩:=List.mem_map.1 hz;exact x.2
theorem Xoy(pre:List W64)(x:W64):held (vals9 (pre++[x]))=cap (held (vals9 pre)+x.1):=by
 have h:vals9 (pre++[x])=vals9 pre++[x.1]:=by simp[vals9]
 rw[h];unfold held;rw[List.sum_append,Xm4 x.2.1];simp
theorem cost_(cs:List Value)(ns n:Nat)(SA A:Option Addr)(sc c B:Nat)(l:List LIn)(wr u:Int)(w:World)(hl:cs.length=40)(hc0:cs[0]?=some (.slice SA ns sc))(hc38:cs[38]?=some (.slice A n c))
 (hin:InsIn w B A n l) (hB:B≤w.heap.size) (h1:ns≤4000) (h2:n≤4000) (h3:dat9 l≤4000) (h4 : -9223372036854775808≤wr) (h5:wr<9223372036854775808) (h6:Word u) :
 Calls Tryz.prog 29 #[.agg cs.toArray,.int .i64 wr,.int .u64 u] w fun e w'=>e=.returned (.int .u64 (cost9 ns (dat9 l) wr u))∧Below w.heap.size w w':=by
 have HSZ:=Hd (show(Tryz.prog.info? 42).map (·.size)=some cs.length by rw[hl];exact Xtt);have r0:=Row.new w 42 cs;have b0:=(Br w.heap.size w).alloc (Lr _) (.cells cs.toArray 42);have s0:(w.alloc (.cells cs.toArray 42)).heap.size=w.heap.size+1:=by simp
 have HR1:=Hd (r0.below ((Br _ _).alloc (Lr _) (.cells #[.int .u64 0] 44)) (by rw[s0];omega));have HC0:=Hd hc0;have HC38:=Hd hc38;have HIN:=Hd hin;have HB:=Hd hB;have H4:=Hd h4;have H5:=Hd h5;have H6:=Hd h6;have HB0:=Hd b0;have HS0:=Hd s0;clear hl hc0 hc38 hin hB h4 h5 h6 r0 b0 s0;refine(callsIn_wide (n:=5)).1 ?_;refine callsIn_of_wp_marks Tryz.func29 rfl trivial ?_ rfl;simp only[Tryz.ntmps29,List.size_toArray,List.length_cons,List.length_nil,Nat.reduceAdd,Nat.reduceSub,Array.replicate_succ,Array.replicate_zero,List.push_toArray,List.append_toArray,List.nil_append,List.cons_append];refine wpIn_wide.2 ?_;go_wp2_with ((with_reducible show wpList _ _ _ (⟨some 9,_,_,_,_,_⟩::_) _ _);go_must(refine Xa0 rfl 42 (.tmp 3) rfl w.heap.size 42 cs _ Tryz.underlying42 rfl HSZ.out HR1.out ?_ ?_;go_simp))
 refine(Xw9 cs wr u _).mono ?_;rintro e w1 ⟨rfl,hw1⟩;obtain⟨W2,hW2⟩:∃W2,(w.alloc (.cells cs.toArray 42)).alloc (.cells #[.int .u64 0] 44)=W2:=⟨_,rfl⟩;have S2:W2.heap.size=w.heap.size+2:=by rw[←hW2];simp
 have B2:Below w.heap.size w W2:=by rw[←hW2];exact HB0.out.alloc HB0.out.size _
 have R2:Row W2 (w.heap.size+1) 44 [.int .u64 0]:=by rw[←hW2];exact Row.new' _ _ _ (by simp)
 rw[hW2]at hw1 ⊢;have B5:Below W2.heap.size W2 w1:=by rw[hw1];exact(((Br _ _).alloc (Lr _) _).alloc (by simp) _).alloc (by simp;omega) _
 have S5:w1.heap.size=w.heap.size+5:=by rw[hw1];simp[S2]
 have RX:Row w1 (w.heap.size+2) 42 cs:=by rw[hw1,←S2];exact((Row.new W2 _ cs).below ((Br _ _).alloc (Lr _) _) (by simp)).below ((Br _ _).alloc (Lr _) _) (by simp;omega)
 have RW:Row w1 (w.heap.size+3) 3 [.int .i64 wr]:=by rw[hw1];exact(Row.new' (W2.alloc (.cells cs.toArray 42)) _ [.int .i64 wr] (by simp[S2])).below ((Br _ _).alloc (Lr _) _) (by simp[S2])
 have RU:Row w1 (w.heap.size+4) 44 [.int .u64 u]:=by rw[hw1];exact Row.new' _ _ [.int .u64 u] (by simp[S2])
 have RA:=R2.below B5 (by rw[S2];omega);have BW:=B2.trans (B5.mono (by rw[S2];omega));have SRC:Src9 w1 (w.heap.size+5) B (w.heap.size+1) (w.heap.size+2) (w.heap.size+3) (w.heap.size+4) ns n SA A sc c l wr u:=
  ⟨(RX.cell 0).trans HC0.out,(RX.cell 38).trans HC38.out,(RW.cell 0).trans rfl,(RU.cell 0).trans rfl,HIN.out.below (BW.mono HB.out),by omega,by omega,by omega,by have:=HB.out;omega⟩
 have hc:=(RA.cell 0).trans (show([Value.int .u64 0]:List Value)[0]?=some (.int .u64 0)from rfl);have hf:=RA.frozen 0;clear hw1 hW2 R2 RX RW RU RA B2 B5 HR1;go_wp2_with fail;refine(wpIn_wide (n:=5)).1 ?_;refine wpIn_rangeFunc_ownF rfl (by omega) (gf:=121) (lb:=#[.pointer (some ⟨w.heap.size+2,0,none⟩),.pointer (some ⟨w.heap.size+3,0,none⟩),.pointer (some ⟨w.heap.size+4,0,none⟩)]) ?hg trivial (enters_of Tryz.func121 (by kernel_rfl) rfl)
  (Xl9 4 (by omega) w1 (w.heap.size+5) B (w.heap.size+1) _ _ _ ns n SA A sc c l wr u SRC (by omega) h1 h2 h3 H4.out H5.out H6.out) (fun h k=>h.trans k) (But9.put (by omega)) (Br _ _) (fun _=>rfl)
  (fun pre W=>(W.cell? ⟨w.heap.size+1,0,none⟩=some (.int .u64 (held (vals9 pre)))∧W.frozen? ⟨w.heap.size+1,0,none⟩=false)∧w.heap.size+5≤W.heap.size∧Below w.heap.size w W)
  (fun _ _ _=>False)
  (OwnFrom.and (Own.from (fun s A B row hs hg hr=>⟨cell_kept hs.1 hg hr,(frozen_kept hs.1 hg hr).trans hs.2⟩) _) (OwnFrom.and (fun s A B row hs hg hr=>Lq hs hg.size) (ownFrom_below (Lr _) (by omega))))
  (fun _ _ _ _ _ hs _ _=>hs)
  ⟨⟨hc,hf⟩,by omega,BW⟩
  (fun x=>{ tmps:=#[.agg cs.toArray,.int .i64 wr,.int .u64 u,.pointer (some ⟨w.heap.size,0,none⟩),undef,undef,.int .u64 0,.pointer (some ⟨w.heap.size+1,0,none⟩),.int .u64 x.1,.agg cs.toArray,.int .i64 wr,.int .u64 u,
    .func (.func 121) #[] #[.pointer (some ⟨w.heap.size+2,0,none⟩),.pointer (some ⟨w.heap.size+3,0,none⟩),.pointer (some ⟨w.heap.size+4,0,none⟩)],.int .u64 x.1,undef,undef,undef,undef,undef],defers:=[] }) ?assign ?body ?done ?stop
 case hg=>rfl
 case assign =>
  intro lp x W K hK;gi_wp2
  exact hK
 case body =>
  rintro lp pre x W ⟨⟨hc,hf⟩,h9,hB⟩ hlen;have hv:=Xkm (Xoe pre);have hlt:w.heap.size+1<W.heap.size:=by obtain⟨o,ho,-⟩:=cells_of_cell hc;exact(Array.getElem?_eq_some_iff.1 ho).1
  have HS:=Hd (Xoy pre x);have HBL:=Hd hB;have H9:=Hd h9;clear hB h9;generalize held (vals9 pre)=s at *;gi_wp2_with fail
  refine⟨trivial,(CallsIn.inRound lp (callsIn_wide.2 (Xgd s x.1 _ _ hv x.2 (Row.new' _ _ _ (by simp))))).mono ?_⟩;rintro e W1 ⟨rfl,hb⟩;have b1:=(Br W.heap.size W).alloc (Lr _) (.cells #[.int .u64 s,.int .u64 x.1] 44);have HB1:=Hd (b1.trans (hb.mono b1.size));have hc1:=(HB1.out.cell (p:=⟨w.heap.size+1,0,none⟩) hlt).trans hc;have hf1:=(HB1.out.frozen (p:=⟨w.heap.size+1,0,none⟩) hlt).trans hf;have HW:=Hd hlt;clear hb b1 hc hf hlt;rw[←HS.out];gi_wp2
  refine⟨?_,?_,⟨?_,?_⟩,?_,?_⟩
  ·exact(KeepsOthers.of_grownBy (Xjc HB1.out) (fun j o e=>by cases e)).trans (KeepsOthers.setCell _ _ _)
  ·exact(But9.of_below HB1.out H9.out).trans ⟨(KeepsWalks.setCell W1 _ _).size,fun k _ hk=>Below.heap_setCell W1 _ _ k hk⟩
  ·exact World.cell?_setCell_same' _ _ _ (by rw[hc1];rfl)
  ·rw[World.frozen?_setCell];exact hf1
  ·exact Lq (Lq H9.out HB1.out.size) (KeepsWalks.setCell W1 _ _).size
  ·exact(HBL.out.trans (HB1.out.mono HBL.out.size)).setCell (p:=⟨w.heap.size+1,0,none⟩) (by show w.heap.size≤w.heap.size+1;omega) _
 case done =>
  rintro D ys W hD hys ⟨⟨hc,_⟩,_,hB⟩ hK;have e:held (vals9 ys)=cost9 ns (dat9 l) wr u:=by unfold cost9;exact congrArg held hys
  rw[e]at hc;clear e hys;go_wp2;refine⟨by simp,.inl ⟨_,_,rfl,run_takeDeferred hK,?_⟩⟩;exact⟨_,results_tmp rfl _ _ _,rfl,hB.trans (belowK_b (w:=w) (Lr _) W D _ _ (by omega) hK rfl rfl)⟩
 case stop =>
  rintro D c pre W _ _ h _;exact h.elim
open Go.ChangeShapes Go.WideShapes Go.ChangeAt Go.RowKit
structure LenAt(w:World):Prop where
 c0:w.cell? ⟨0,0,none⟩=some (.int .i64 0)
 c1:w.cell? ⟨0,1,none⟩=some (.int .i64 0)
 c2:w.cell? ⟨0,2,none⟩=some (.int .i64 4)
 c3:w.cell? ⟨0,3,none⟩=some (.int .i64 8)
theorem LenAt.keep{w w':World}(h:LenAt w)(hk:∀p:Addr,p.block=0→w'.cell? p=w.cell? p):LenAt w':=
 ⟨(hk _ rfl).trans h.c0,(hk _ rfl).trans h.c1,(hk _ rfl).trans h.c2,(hk _ rfl).trans h.c3⟩
theorem LenAt.pos{w:World}(h:LenAt w):0<w.heap.size:=block_lt_of_cell h.c0
theorem LenAt.below{w w':World}{B:Nat}(h:LenAt w)(hb:Below B w w')(hB:0<B):LenAt w':=h.keep fun p hp=>hb.cell (by omega)
theorem gLen : Tryz.prog.globalNamed "ferryhouse/budgets.lengths" = some 0 := by kernel_rfl
theorem tLen:(Tryz.prog.globals[0]?).map (·.type)=some 179:=by kernel_rfl
theorem cInt:Tryz.prog.cellsOf 3=1:=by kernel_rfl
theorem Xuf (os : Os) (args : Array Value) : laidMetH Tryz.prog [("ferryhouse/budgets.lengths", Rows.laid_ferryhouse_budgets_lengths)] ((World.doorLaid Tryz.prog 400 os).forCall (fun _ _ => 0) ⟨#[], args, []⟩).memory :=
 laidMetH_of_parts3 (fuel:=8) (laidMet_of_run' 8 (by kernel_rfl) (by kernel_rfl)) (by kernel_rfl) (by kernel_rfl)
theorem Xx2 {W : World} (h : laidMetH Tryz.prog [("ferryhouse/budgets.lengths", Rows.laid_ferryhouse_budgets_lengths)] W) : LenAt W := by
 rw[MakeChecks.laidMetH_plain _ _ _ (by kernel_rfl)]at h;obtain⟨ps,⟨g0,t0,cs0,f0,p0,q0,hg0,ht0,hv0,hd0,_,_⟩,_,_⟩:=h;obtain rfl:=Option.some.inj (gLen.symm.trans hg0);obtain rfl:=Option.some.inj (tLen.symm.trans ht0);obtain⟨xs,m1,rfl,hx1,hlen,hn3,hel⟩:=DataW.trod_array Tryz.underlying179 hd0;simp only[Rows.laid_ferryhouse_budgets_lengths,Prod.mk.injEq,DataW.agg.injEq]at hx1;obtain⟨l1⟩:=cs0;match xs,hn3,hx1 with
 | [x0,x1,x2,x3],_,hx1 =>
  simp only[List.map_cons,List.map_nil,List.cons.injEq]at hx1;have one:∀(i:Nat) (hi:i<4) (x:DataW Unit × List MemPlace) (n:Int),[x0,x1,x2,x3][i]?=some x→x.1=.lit (.int .i64 n)→l1[i]?=some (.int .i64 n):=by
   intro i hi x n hxi hxn;have h0:=hel i hi;rw[hxi]at h0;obtain⟨k,e1,e2,_⟩:=DataW.trod_int Tryz.underlying3 h0;rw[cInt,Nat.mul_one]at e1;have hk:k=n:=by rw[e2]at hxn;simpa using hxn
   subst hk;have e3:l1.drop i=.int .i64 k::l1.drop (i+1):=by
    have:=congrArg List.head? e1;rw[List.head?_take]at this;rw[if_neg (by omega)]at this;have h2:(l1.drop i).head?=some (.int .i64 k):=this;rw[List.head?_drop]at h2;rw[List.drop_eq_getElem_cons (List.getElem?_eq_some_iff.1 h2).1,(List.getElem?_eq_some_iff.1 h2).2]
   have:=congrArg List.head? e3;rwa [List.head?_drop]at this
  have cell:∀(i:Nat) v,l1[i]?=some v→W.cell? ⟨0,i,none⟩=some v:=fun i v hv=>by
   have:=World.var?_cell hg0 hv0 i;simpa using this.trans (by simpa using hv)
  exact⟨cell 0 _ (one 0 (by omega) x0 0 rfl hx1.1.1.symm),cell 1 _ (one 1 (by omega) x1 0 rfl hx1.1.2.1.symm),cell 2 _ (one 2 (by omega) x2 4 rfl hx1.1.2.2.1.symm),cell 3 _ (one 3 (by omega) x3 8 rfl hx1.1.2.2.2.1.symm)⟩
end Go.Proofs.YtdgbodljmdcagaaGreatDoor
