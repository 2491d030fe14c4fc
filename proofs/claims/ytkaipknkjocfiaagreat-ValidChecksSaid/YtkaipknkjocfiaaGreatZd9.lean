import Derived.Deep.CutRange
import Derived.Laws.Shifts
import Derived.Shelf.SlGeneric
import Derived.Ground.SlsfProg
import Derived.Shelf.SlLaysF0
import Derived.Shelf.SlSortCmp.InsertionK
import Derived.RangeFuncNested
import Derived.RangeFuncBound
import Derived.RangeFuncCalls
import Derived.RangeFuncLeaves
import Derived.TacticsInMore
import Derived.OrdersIn
import Derived.Shelf.Abstract
import Derived.Shelf.RegionOpen
import Derived.WalkKit
import Derived.OwnWalkIn
import Derived.BigFrameIn
import Derived.LoopNIn
import Derived.LoopIn
import Derived.Test.YtkaipknkjocfiaaGreatZd8
import Derived.Test.YtkaipknkjocfiaaGreatProg
set_option maxRecDepth 100000
set_option maxHeartbeats 64000000
namespace Go.Proofs.YtkaipknkjocfiaaGreat
open Go.RowKit Go.Shelf Go.Lib Go.Sort Go.Proofs
variable {α : Type} [Inhabited α]
section
variable {lt : α -> α -> Bool} {d : Array α} {a m b h : Nat}
theorem abP(hO:SWO lt)(hs:SortedIn lt (a+1) b d)(hb:h<b)(hv:lt d[h]! d[a]! =true):∀p,a+1<=p->p<h+1->lt d[p]! d[a]! =true:=fun p hp hq=>by
 have h1:=pJ hO hs hp (show p<=h by omega) hb;cases h2:lt d[p]! d[a]! with
 |true=>rfl
 |false=>rw [hO.ntrans _ _ _ h1 h2]at hv;cases hv
theorem abQ(hO:SWO lt)(hs:SortedIn lt (a+1) b d)(ha:a+1<=h)(hv:lt d[h]! d[a]! =false):∀p,h<=p->p<b->lt d[p]! d[a]! =false:=fun _ hp hq=>
 hO.ntrans _ _ _ (pJ hO hs ha hp hq) hv
theorem abR(hO:SWO lt)(hs:SortedIn lt a m d)(hb:h<m)(hv:lt d[m]! d[h]! =false):∀p,a<=p->p<h+1->lt d[m]! d[p]! =false:=fun _ hp hq=>
 hO.ntrans _ _ _ hv (pJ hO hs hp (by omega) hb)
theorem abS(hO:SWO lt)(hs:SortedIn lt a m d)(ha:a<=h)(hv:lt d[m]! d[h]! =true):∀p,h<=p->p<m->lt d[m]! d[p]! =true:=fun p hp hq=>by
 have h1:=pJ hO hs ha hp hq;cases h2:lt d[m]! d[p]! with
 |true=>rfl
 |false=>rw [hO.ntrans _ _ _ h2 h1]at hv;cases hv
end
omit [Inhabited α]in
theorem KO{cf:α->α->Int}{x y:α}(h:cf x y<0):ltOf cf x y=true:=decide_eq_true h
omit [Inhabited α]in
theorem Ic{cf:α->α->Int}{x y:α}(h:¬cf x y<0):ltOf cf x y=false:=decide_eq_false h
theorem abT(k:Nat)(zE:∀w,(Go.sizeOf 145).run Tryz.prog w= .ok k w)(enc:α->List Value)(cf:α->α->Int)(hO:SWO (ltOf cf))(g:Nat)(cb:Array Value)(blk off cap:Nat)(d0:Array α)(w0:World)
  (eg:∀args w,(callFunc g args).run Tryz.prog w= .ok (.enter g args) w) (hcmp:CmpLays Tryz.prog g cb enc k cf blk off d0.size w0) (R:RowK enc k w0 blk off d0)
  (a b:Nat) (d:Array α) (w:World) (hs:d0.size=d.size) (S:SWK enc k w0 blk off d w) (hmb:a+1<b) (hb:b<=d.size) (hsz:d.size<4611686018427387904) (hsB:SortedIn (ltOf cf) (a+1) b d):
  Calls Tryz.prog 185 #[.slice (some ⟨blk,off,none⟩) d.size cap,.int .i64 (a:Int),.int .i64 ((a+1:Nat):Int),.int .i64 (b:Int),.func (.func g) #[] cb] w fun e w'=>e= .returned (.tuple #[])/\ ∃d',iF (ltOf cf) d d' a b/\ SWK enc k w0 blk off d' w':=by
 have mixed:Tryz.prog.follows Departure.mixedOrders=true:=(by kernel_rfl);have aE:=Tryz.isAgg145;have HC:Aside (CmpLays Tryz.prog g cb enc k cf blk off d0.size w0):=hcmp;have S0:Aside (SWK enc k w0 blk off d w):=S;have HB:=ah hsB;have RY:=ah hO;clear hcmp S hsB hO;have hz:IntKind.i64.wrap (((a+1:Nat):Int)-(a:Int))=1:=(by rw [IntKind.wrap_i64]<;>omega);have hz2:((a:Int)+1-(a:Int))=1:=(by omega);go_enter Tryz.func185,Tryz.ntmps185;go_wp2
 go_loopg [10,11] (b-(a+1)) (fun kx s1 s2 wr=>∃ (i j:Nat),s1= .int .i64 (i:Int)/\ s2= .int .i64 (j:Int)/\ a+1<=i/\ i<=j/\ j<=b/\ j-i<=kx/\ Aside (∀p,a+1<=p->p<i->ltOf cf d[p]! d[a]! =true)/\ Aside (∀p,j<=p->p<b->ltOf cf d[p]! d[a]! =false)/\ Aside (SWK enc k w0 blk off d wr))
 case atStart=>exact⟨a+1,b,by first|rfl|go_num,rfl,aj _,by omega,aj _,aj _,(fun p h1 h2=>by omega),(fun p h1 h2=>by omega),S0⟩
 case round=>
  clear S0;obtain⟨i,j,rfl,rfl,hai,hij,hjb,hkx,HL,HR,S1⟩:=hrel;by_cases hlt:i<j
  · have hltz:(i:Int)< (j:Int):=by omega
    obtain⟨h,hh⟩:∃h:Nat,h=(i+j)/2:=⟨_,rfl⟩;have w1h:IntKind.i64.wrap ((i:Int)+(j:Int))=(i:Int)+(j:Int):=(by rw [IntKind.wrap_i64]<;>omega);have w2h:IntKind.u64.wrap ((i:Int)+(j:Int))=(i:Int)+(j:Int):=(by simp [IntKind.wrap,IntKind.bits,IntKind.signed];omega);go_upto_region 5 with fail
    have w3h:((i:Int)+(j:Int))/2=(h:Int):=(by omega);rw [w3h];have h1:i<=h:=(by omega);have h2:h<j:=(by omega);clear w1h w2h w3h hh;have eah:((h:Int)).toNat=h:=(by omega);have pah:(0:Int)<=(h:Int):=(by omega);have bah:(h:Int)< (d.size:Int):=(by omega);have eaa:((a:Int)).toNat=a:=(by omega);have paa:(0:Int)<=(a:Int):=(by omega);have baa:(a:Int)< (d.size:Int):=(by omega);by_cases hv:cf d[h]! d[a]!<0
    · have HV:=ah (abP RY.out HB.out (by omega) (KO hv))
      have la:=S1.out.ld R (by omega) Tryz.prog h (by omega);have lb:=S1.out.ld R (by omega) Tryz.prog a (by omega);have hcx:=S1.out.cmp HC.out (by omega) d[h]! d[a]!
      generalize d[h]! =x at la hcx hv
      generalize d[a]! =y at lb hcx hv
      have hdv:decide (cf x y<0)=true:=decide_eq_true hv;go_wp2_with fail
      go_quiet_grown (first|(go_at_fn g;refine Calls.grown_of (hcx _ _)))
      have S2:Aside (SWK enc k w0 blk off d (grow (wr.drewN nq) osq)):=S1.out.grown nq osq;clear la lb hcx S1
      generalize grow (wr.drewN nq) osq=w2 at S2⊢
      clear nq osq;go_wp2_with fail
      go_roundg (j-(h+1))
      case measure=>omega
      case rel=>exact⟨h+1,j,by first|rfl|go_num,rfl,by omega,by omega,hjb,aj _,HV.out,HR,S2⟩
    · have HV:=ah (abQ RY.out HB.out (show a+1<=h by omega) (Ic hv))
      have la:=S1.out.ld R (by omega) Tryz.prog h (by omega);have lb:=S1.out.ld R (by omega) Tryz.prog a (by omega);have hcx:=S1.out.cmp HC.out (by omega) d[h]! d[a]!
      generalize d[h]! =x at la hcx hv
      generalize d[a]! =y at lb hcx hv
      have hdv:decide (cf x y<0)=false:=decide_eq_false hv;go_wp2_with fail
      go_quiet_grown (first|(go_at_fn g;refine Calls.grown_of (hcx _ _)))
      have S2:Aside (SWK enc k w0 blk off d (grow (wr.drewN nq) osq)):=S1.out.grown nq osq;clear la lb hcx S1
      generalize grow (wr.drewN nq) osq=w2 at S2⊢
      clear nq osq;go_wp2_with fail
      go_roundg (h-i)
      case measure=>omega
      case rel=>exact⟨i,h,rfl,by first|rfl|go_num,hai,by omega,by omega,aj _,HL,HV.out,S2⟩
  · obtain rfl:i=j:=by omega
    have wi:IntKind.i64.wrap ((i:Int)-1)=(i:Int)-1:=(by rw [IntKind.wrap_i64]<;>omega);go_wp2_with fail
    go_loopg [13] (i-1-a) (fun kx s1 wx=>∃ (q:Nat) (dk:Array α),s1= .int .i64 (q:Int)/\ a<=q/\ q<=i-1/\ i-1-q<=kx/\ dk.size=d.size/\ Aside (qO d dk a (a+1) (q+1))/\ Aside (SWK enc k w0 blk off dk wx))
    case atStart=>exact⟨a,d,rfl,aj _,by omega,aj _,rfl,qO.ZI d,S1⟩
    case round=>
      clear S1;obtain⟨q,dk,rfl,haq,hqi,ai9,hds,HP,S1⟩:=hrel;by_cases hlt2:q<i-1
      · have hltz:(q:Int)< (i:Int)-1:=by omega
        obtain⟨q1,hq1⟩:∃q1:Nat,q1=q+1:=⟨_,rfl⟩;have wq:IntKind.i64.wrap ((q:Int)+1)=(q1:Int):=(by rw [IntKind.wrap_i64]<;>omega);have eaq:((q:Int)).toNat=q:=(by omega);have paq:(0:Int)<=(q:Int):=(by omega);have baq:(q:Int)< (d.size:Int):=(by omega);have alY:((q1:Int)).toNat=q1:=(by omega);have alZ:(0:Int)<=(q1:Int):=(by omega);have al0:(q1:Int)< (d.size:Int):=(by omega);have HP2:Aside (qO d (swp dk q q1) a (a+1) (q+2)):=by
         show qO _ _ _ _ _
         rw [hq1];exact HP.out.up haq (by omega)
        have ZM:=ah hq1;have hq2:q1<=i-1:=(by omega);have hq3:a<=q1:=(by omega);have hq4:q1<dk.size:=(by omega);clear hq1;have Q7:q<dk.size:=(by omega);have Wn:q1<dk.size:=(by omega);have S2:Aside (SWK enc k w0 blk off (swp dk q q1) ((wr.drew.setCells blk (off+q*k) (enc dk[q1]!)).setCells blk (off+q1*k) (enc dk[q]!))):=S1.out.swapped R q q1 Q7 Wn;have la:=S1.out.ld1 R (by omega) Tryz.prog q Q7;have lb:=S1.out.ld1 R (by omega) Tryz.prog q1 Wn;have sa:=S1.out.st1 R (by omega) Tryz.prog q Q7 dk[q1]!;have sb:=S1.out.st2 R (by omega) Tryz.prog q q1 Q7 Wn dk[q1]! dk[q]!;have na:(enc dk[q]!).length=k:=R.hk _;have nb:(enc dk[q1]!).length=k:=R.hk _
        generalize enc dk[q]! =cI at S2 la sb na
        generalize enc dk[q1]! =cJ at S2 lb sb sa nb
        clear S1;go_wp2_with fail
        go_big_region_o
        clear la lb sa sb
        generalize (wr.drew.setCells blk (off+q*k) cJ).setCells blk (off+q1*k) cI=w2 at S2⊢
        go_wp2_with fail
        go_roundg (i-1-q1)
        case measure=>have:=ZM.out;omega
        case rel=>
         refine⟨q1,swp dk q q1,by first|rfl|go_num,by omega,by omega,aj _,by rw [size_swp];exact hds, ?_,S2⟩;have:=HP2.out;rw [show q+2=q1+1 by have:=ZM.out;omega]at this;exact this
      · obtain rfl:q=i-1:=by omega
        have hltz:¬ ((i-1:Nat):Int)< (i:Int)-1:=(by omega);have HM:=ZK RY.out hb HB.out hai hjb HL.out HR.out (by have:=HP.out;rwa [show i-1+1=i by omega]at this);obtain⟨q,hq⟩:=aqx (i-1);rw [<-hq]at hltz⊢;have hq':=ah hq;clear hq;go_wp2_with fail
        (try simp only [Exit.inBlock,Exit.then])
        refine bodyPost_ret (results_none rfl _ _ _) rfl ?_;exact⟨rfl,dk,HM,S1.out⟩
theorem ZN(k:Nat)(zE:∀w,(Go.sizeOf 145).run Tryz.prog w= .ok k w)(enc:α->List Value)(cf:α->α->Int)(hO:SWO (ltOf cf))(g:Nat)(cb:Array Value)(blk off cap:Nat)(d0:Array α)(w0:World)
  (eg:∀args w,(callFunc g args).run Tryz.prog w= .ok (.enter g args) w) (hcmp:CmpLays Tryz.prog g cb enc k cf blk off d0.size w0) (R:RowK enc k w0 blk off d0)
  (a m b:Nat) (hbm:b=m+1) (d:Array α) (w:World) (hs:d0.size=d.size) (S:SWK enc k w0 blk off d w) (ham:a+1<m) (hb:b<=d.size) (hsz:d.size<4611686018427387904) (hsA:SortedIn (ltOf cf) a m d):
  Calls Tryz.prog 185 #[.slice (some ⟨blk,off,none⟩) d.size cap,.int .i64 (a:Int),.int .i64 (m:Int),.int .i64 (b:Int),.func (.func g) #[] cb] w fun e w'=>e= .returned (.tuple #[])/\ ∃d',iF (ltOf cf) d d' a b/\ SWK enc k w0 blk off d' w':=by
 have mixed:Tryz.prog.follows Departure.mixedOrders=true:=(by kernel_rfl);have aE:=Tryz.isAgg145;have HC:Aside (CmpLays Tryz.prog g cb enc k cf blk off d0.size w0):=hcmp;have S0:Aside (SWK enc k w0 blk off d w):=S;have HB:=ah hsA;have RY:=ah hO;clear hcmp S hsA hO;have hz:IntKind.i64.wrap ((m:Int)-(a:Int))=(m:Int)-(a:Int):=(by rw [IntKind.wrap_i64]<;>omega);have hz1:¬ (m:Int)-(a:Int)=1:=(by omega);have hz3:((m:Int)-(a:Int)==1)=false:=(by simp;omega);have hz2:((b:Int)-(m:Int))=1:=(by omega);have hb1:m<d.size:=(by omega);have HBM:=ah hbm;clear hbm;go_enter Tryz.func185,Tryz.ntmps185;go_wp2
 go_loopg [14,15] (m-a) (fun kx s1 s2 wr=>∃ (i j:Nat),s1= .int .i64 (i:Int)/\ s2= .int .i64 (j:Int)/\ a<=i/\ i<=j/\ j<=m/\ j-i<=kx/\ Aside (∀p,a<=p->p<i->ltOf cf d[m]! d[p]! =false)/\ Aside (∀p,j<=p->p<m->ltOf cf d[m]! d[p]! =true)/\ Aside (SWK enc k w0 blk off d wr))
 case atStart=>exact⟨a,m,rfl,rfl,aj _,by omega,aj _,aj _,(fun p h1 h2=>by omega),(fun p h1 h2=>by omega),S0⟩
 case round=>
  clear S0;obtain⟨i,j,rfl,rfl,hai,hij,hjb,hkx,HL,HR,S1⟩:=hrel;by_cases hlt:i<j
  · have hltz:(i:Int)< (j:Int):=by omega
    obtain⟨h,hh⟩:∃h:Nat,h=(i+j)/2:=⟨_,rfl⟩;have w1h:IntKind.i64.wrap ((i:Int)+(j:Int))=(i:Int)+(j:Int):=(by rw [IntKind.wrap_i64]<;>omega);have w2h:IntKind.u64.wrap ((i:Int)+(j:Int))=(i:Int)+(j:Int):=(by simp [IntKind.wrap,IntKind.bits,IntKind.signed];omega);go_upto_region 17 with fail
    have w3h:((i:Int)+(j:Int))/2=(h:Int):=(by omega);rw [w3h];have h1:i<=h:=(by omega);have h2:h<j:=(by omega);clear w1h w2h w3h hh;have eah:((h:Int)).toNat=h:=(by omega);have pah:(0:Int)<=(h:Int):=(by omega);have bah:(h:Int)< (d.size:Int):=(by omega);have eam:((m:Int)).toNat=m:=(by omega);have pam:(0:Int)<=(m:Int):=(by omega);have bam:(m:Int)< (d.size:Int):=(by omega);by_cases hv:cf d[m]! d[h]!<0
    · have HV:=ah (abS RY.out HB.out (show a<=h by omega) (KO hv))
      have la:=S1.out.ld R (by omega) Tryz.prog m (by omega);have lb:=S1.out.ld R (by omega) Tryz.prog h (by omega);have hcx:=S1.out.cmp HC.out (by omega) d[m]! d[h]!
      generalize d[m]! =x at la hcx hv
      generalize d[h]! =y at lb hcx hv
      have hdv:decide (cf x y<0)=true:=decide_eq_true hv;go_wp2_with fail
      go_quiet_grown (first|(go_at_fn g;refine Calls.grown_of (hcx _ _)))
      have S2:Aside (SWK enc k w0 blk off d (grow (wr.drewN nq) osq)):=S1.out.grown nq osq;clear la lb hcx S1
      generalize grow (wr.drewN nq) osq=w2 at S2⊢
      clear nq osq;go_wp2_with fail
      go_roundg (h-i)
      case measure=>omega
      case rel=>exact⟨i,h,rfl,by first|rfl|go_num,hai,by omega,by omega,aj _,HL,HV.out,S2⟩
    · have HV:=ah (abR RY.out HB.out (show h<m by omega) (Ic hv))
      have la:=S1.out.ld R (by omega) Tryz.prog m (by omega);have lb:=S1.out.ld R (by omega) Tryz.prog h (by omega);have hcx:=S1.out.cmp HC.out (by omega) d[m]! d[h]!
      generalize d[m]! =x at la hcx hv
      generalize d[h]! =y at lb hcx hv
      have hdv:decide (cf x y<0)=false:=decide_eq_false hv;go_wp2_with fail
      go_quiet_grown (first|(go_at_fn g;refine Calls.grown_of (hcx _ _)))
      have S2:Aside (SWK enc k w0 blk off d (grow (wr.drewN nq) osq)):=S1.out.grown nq osq;clear la lb hcx S1
      generalize grow (wr.drewN nq) osq=w2 at S2⊢
      clear nq osq;go_wp2_with fail
      go_roundg (j-(h+1))
      case measure=>omega
      case rel=>exact⟨h+1,j,by first|rfl|go_num,rfl,by omega,by omega,hjb,aj _,HV.out,HR,S2⟩
  · obtain rfl:i=j:=by omega
    go_wp2_with fail
    go_loopg [17] (m-i) (fun kx s1 wx=>∃ (q:Nat) (dk:Array α),s1= .int .i64 (q:Int)/\ i<=q/\ q<=m/\ q-i<=kx/\ dk.size=d.size/\ Aside (qO d dk q m (m+1))/\ Aside (SWK enc k w0 blk off dk wx))
    case atStart=>exact⟨m,d,rfl,hjb,aj _,aj _,rfl,qO.ZH d (by omega),S1⟩
    case round=>
      clear S1;obtain⟨q,dk,rfl,haq,hqi,ai9,hds,HP,S1⟩:=hrel;by_cases hlt2:i<q
      · have hltz:(i:Int)< (q:Int):=by omega
        obtain⟨q1,hq1⟩:∃q1:Nat,q1=q-1:=⟨_,rfl⟩;have wq:IntKind.i64.wrap ((q:Int)-1)=(q1:Int):=(by rw [IntKind.wrap_i64]<;>omega);have eaq:((q:Int)).toNat=q:=(by omega);have paq:(0:Int)<=(q:Int):=(by omega);have baq:(q:Int)< (d.size:Int):=(by omega);have alY:((q1:Int)).toNat=q1:=(by omega);have alZ:(0:Int)<=(q1:Int):=(by omega);have al0:(q1:Int)< (d.size:Int):=(by omega);have HP2:Aside (qO d (swp dk q q1) q1 m (m+1)):=by
         show qO _ _ _ _ _
         have e:q=q1+1:=(by omega);have h1:=HP.out;rw [e]at h1⊢;exact h1.down (by omega) hb1
        have ZM:=ah hq1;have hq2:i<=q1:=(by omega);have hq3:q1<=m:=(by omega);have hq4:q1<dk.size:=(by omega);clear hq1;have Q7:q<dk.size:=(by omega);have Wn:q1<dk.size:=(by omega);have S2:Aside (SWK enc k w0 blk off (swp dk q q1) ((wr.drew.setCells blk (off+q*k) (enc dk[q1]!)).setCells blk (off+q1*k) (enc dk[q]!))):=S1.out.swapped R q q1 Q7 Wn;have la:=S1.out.ld1 R (by omega) Tryz.prog q Q7;have lb:=S1.out.ld1 R (by omega) Tryz.prog q1 Wn;have sa:=S1.out.st1 R (by omega) Tryz.prog q Q7 dk[q1]!;have sb:=S1.out.st2 R (by omega) Tryz.prog q q1 Q7 Wn dk[q1]! dk[q]!;have na:(enc dk[q]!).length=k:=R.hk _;have nb:(enc dk[q1]!).length=k:=R.hk _
        generalize enc dk[q]! =cI at S2 la sb na
        generalize enc dk[q1]! =cJ at S2 lb sb sa nb
        clear S1;go_wp2_with fail
        go_big_region_o
        clear la lb sa sb
        generalize (wr.drew.setCells blk (off+q*k) cJ).setCells blk (off+q1*k) cI=w2 at S2⊢
        go_wp2_with fail
        go_roundg (q1-i)
        case measure=>have:=ZM.out;omega
        case rel=>exact⟨q1,swp dk q q1,by first|rfl|go_num,hq2,hq3,aj _,by rw [size_swp];exact hds,HP2,S2⟩
      · obtain rfl:q=i:=by omega
        have HM:=QY RY.out (by omega) HB.out hai hjb HL.out HR.out HP.out;rw [<-HBM.out]at HM;go_wp2_with fail
        (try simp only [Exit.inBlock,Exit.then])
        refine bodyPost_ret (results_none rfl _ _ _) rfl ?_;exact⟨rfl,dk,HM,S1.out⟩
open Go.RowKit Go.Shelf Go.Lib Go.Sort Go.Proofs
variable {α : Type} [Inhabited α]
theorem Ie{lt:α->α->Bool}{d:Array α}{a c b:Nat}{q:Bool}(hq:q=decide (a<c/\ c<b))(h:q=false)(h1:SortedIn lt a c d)(h2:SortedIn lt c b d):iF lt d d a b:=
 Q5 h1 h2 (by rw [hq]at h;exact of_decide_eq_false h)
theorem Q8{p q:Prop}[Decidable p][Decidable q](h1:p)(h2:q):decide (p/\ q)=true:=decide_eq_true ⟨h1,h2⟩
theorem Q9{p q:Prop}[Decidable p][Decidable q](h2:¬q):decide (p/\ q)=false:=decide_eq_false fun h=>h2 h.2
theorem ZO{p q:Prop}[Decidable p][Decidable q](h1:¬p):decide (p/\ q)=false:=decide_eq_false fun h=>h1 h.1
theorem Rf{a m b:Nat}(h1:a+1<m)(h2:m+1<b):TK a m b<=QZ a m b/\ QZ a m b<=m/\ a<=TK a m b/\ (a+b)/2+m<b+QZ a m b/\ (a+b)/2+m<=b+TK a m b/\ QZ a m b<=(a+b)/2:=by
 unfold TK QZ
 split<;>omega
theorem ZP(k:Nat)(zE:∀w,(Go.sizeOf 145).run Tryz.prog w= .ok k w)(enc:α->List Value)(cf:α->α->Int)(hO:SWO (ltOf cf))(g:Nat)(cb:Array Value)(blk off cap:Nat)(d0:Array α)(w0:World)
  (eg:∀args w,(callFunc g args).run Tryz.prog w= .ok (.enter g args) w) (hcmp:CmpLays Tryz.prog g cb enc k cf blk off d0.size w0) (R:RowK enc k w0 blk off d0) (N:Nat)
  (ih:∀ (a m b:Nat) (d:Array α) (w:World),b-a<N->d0.size=d.size->SWK enc k w0 blk off d w->a<m->m<b->b<=d.size->d.size<4611686018427387904->SortedIn (ltOf cf) a m d->SortedIn (ltOf cf) m b d->
    Calls Tryz.prog 185 #[.slice (some ⟨blk,off,none⟩) d.size cap,.int .i64 (a:Int),.int .i64 (m:Int),.int .i64 (b:Int),.func (.func g) #[] cb] w fun e w'=>e= .returned (.tuple #[])/\ ∃d',iF (ltOf cf) d d' a b/\ SWK enc k w0 blk off d' w')
  (a m b:Nat) (d:Array α) (w:World) (hN:b-a<N+1) (hs:d0.size=d.size) (S:SWK enc k w0 blk off d w) (ham:a+1<m) (hmb:m+1<b) (hb:b<=d.size) (hsz:d.size<4611686018427387904) (hsA:SortedIn (ltOf cf) a m d) (hsB:SortedIn (ltOf cf) m b d):
  Calls Tryz.prog 185 #[.slice (some ⟨blk,off,none⟩) d.size cap,.int .i64 (a:Int),.int .i64 (m:Int),.int .i64 (b:Int),.func (.func g) #[] cb] w fun e w'=>e= .returned (.tuple #[])/\ ∃d',iF (ltOf cf) d d' a b/\ SWK enc k w0 blk off d' w':=by
 have mixed:Tryz.prog.follows Departure.mixedOrders=true:=(by kernel_rfl);have aE:=Tryz.isAgg145;have HC:Aside (CmpLays Tryz.prog g cb enc k cf blk off d0.size w0):=hcmp;have S0:Aside (SWK enc k w0 blk off d w):=S;have HA:=ah hsA;have HB:=ah hsB;have RY:=ah hO;have IH:=ah ih;have HAM:Hid (a<m/\ m<b):=ah (by omega);obtain⟨md,hmd⟩:∃x:Nat,x=(a+b)/2:=⟨_,rfl⟩;obtain⟨lo,hlo⟩:∃x:Nat,x=TK a m b:=⟨_,rfl⟩;obtain⟨hi,hhi⟩:∃x:Nat,x=QZ a m b:=⟨_,rfl⟩;have l1:md<m->(lo:Int)=(md:Int)+(m:Int)-(b:Int):=fun h=>by rw [hlo];unfold TK;rw [<-hmd,if_pos h];omega
 have l2:¬md<m->lo=a:=fun h=>by rw [hlo];unfold TK;rw [<-hmd,if_neg h]
 have l3:md<m->hi=md:=fun h=>by rw [hhi];unfold QZ;rw [<-hmd,if_pos h]
 have l4:¬md<m->hi=m:=fun h=>by rw [hhi];unfold QZ;rw [<-hmd,if_neg h]
 have hbd:=Rf ham hmb;rw [<-hmd, <-hlo, <-hhi]at hbd;obtain⟨hlh,hhm,hla,hb1,hb2,hb3⟩:=hbd;have amd:a<md:=(by omega);have mdb:md<b:=(by omega);have HL:Hid ((md<m->(lo:Int)=(md:Int)+(m:Int)-(b:Int))/\ (¬md<m->lo=a)/\ (md<m->hi=md)/\ (¬md<m->hi=m)):=ah ⟨l1,l2,l3,l4⟩;have HX:Hid (md=(a+b)/2/\ lo=TK a m b/\ hi=QZ a m b):=ah ⟨hmd,hlo,hhi⟩;have hz1:¬ (m:Int)-(a:Int)=1:=(by omega);have hz3:((m:Int)-(a:Int)==1)=false:=(by simp;omega);have hz2:¬ (b:Int)-(m:Int)=1:=(by omega);have GK:((b:Int)-(m:Int)==1)=false:=(by simp;omega);have w1:IntKind.i64.wrap ((a:Int)+(b:Int))=(a:Int)+(b:Int):=(by rw [IntKind.wrap_i64]<;>omega);have w2:IntKind.u64.wrap ((a:Int)+(b:Int))=(a:Int)+(b:Int):=(by simp [IntKind.wrap,IntKind.bits,IntKind.signed];omega);have w3:((a:Int)+(b:Int))/2=(md:Int):=(by omega);have HW3:=ah w3;clear hcmp S hsA hsB hO ih w3 hmd hlo hhi l1 l2 l3 l4;go_enter Tryz.func185,Tryz.ntmps185;go_upto_region 25 with fail
 rw [HW3.out];clear w1 w2
 go_upto_if 140 with fail
 go_cut [20,21]from 140 to 146 (fun s20 s21 wx=>s20= .int .i64 (lo:Int)/\ s21= .int .i64 (hi:Int)/\ wx=w)
 case first=>
  by_cases hm:md<m
  · have hmz:(md:Int)< (m:Int):=by omega
    have e1:=HL.out.1 hm;have e2:=HL.out.2.2.1 hm;go_wp2_with fail
    go_meet
    exact⟨by rw [e1],by rw [e2],rfl⟩
  · have hmz:¬ (md:Int)< (m:Int):=by omega
    have e1:=HL.out.2.1 hm;have e2:=HL.out.2.2.2 hm;go_wp2_with fail
    go_meet
    exact⟨by rw [e1],by rw [e2],rfl⟩
 obtain⟨rfl,rfl,rfl⟩:=hcut
 rename World=>w
 go_wp2_with fail
 go_loopg [20,21] (hi-lo) (fun kx s1 s2 wr=>∃ (st r:Nat),s1= .int .i64 (st:Int)/\ s2= .int .i64 (r:Int)/\ lo<=st/\ st<=r/\ r<=hi/\ r-st<=kx/\ Aside (xY (ltOf cf) d a m b (TK a m b) (QZ a m b) st r)/\ Aside (SWK enc k w0 blk off d wr))
 case atStart=>exact⟨lo,hi,rfl,rfl,aj _,hlh,aj _,aj _,(by show xY _ _ _ _ _ _ _ _ _;rw [HX.out.2.1,HX.out.2.2];exact xY.start (by rw [<-HX.out.2.1, <-HX.out.2.2];exact hlh)),S0⟩
 case round=>
  clear S0;obtain⟨st,r,rfl,rfl,hls,hsr,hrh,hkx,HCS,S1⟩:=hrel;by_cases hlt:st<r
  · have hltz:(st:Int)< (r:Int):=by omega
    obtain⟨c,hc⟩:∃h:Nat,h=(st+r)/2:=⟨_,rfl⟩;have w1c:IntKind.i64.wrap ((st:Int)+(r:Int))=(st:Int)+(r:Int):=(by rw [IntKind.wrap_i64]<;>omega);have w2c:IntKind.u64.wrap ((st:Int)+(r:Int))=(st:Int)+(r:Int):=(by simp [IntKind.wrap,IntKind.bits,IntKind.signed];omega);go_upto_region 35 with fail
    have w3c:((st:Int)+(r:Int))/2=(c:Int):=(by omega);rw [w3c];have c1:st<=c:=(by omega);have c2:c<r:=(by omega);have HHC:=ah hc;clear w1c w2c w3c hc;obtain⟨q,hq⟩:∃q:Nat,q=md+m-1-c:=⟨_,rfl⟩;have wq:IntKind.i64.wrap ((md:Int)+(m:Int)-1-(c:Int))=(q:Int):=(by rw [IntKind.wrap_i64]<;>omega);have eaq:((q:Int)).toNat=q:=(by omega);have paq:(0:Int)<=(q:Int):=(by omega);have baq:(q:Int)< (d.size:Int):=(by omega);have eac:((c:Int)).toNat=c:=(by omega);have pac:(0:Int)<=(c:Int):=(by omega);have bac:(c:Int)< (d.size:Int):=(by omega);have HQ:=ah hq;have hqs:q<d.size:=(by omega);clear hq;by_cases hv:cf d[q]! d[c]!<0
    · have HV:Aside (xY (ltOf cf) d a m b (TK a m b) (QZ a m b) st c):=by
        show xY _ _ _ _ _ _ _ _ _
        rw [HHC.out];refine HCS.out.down hlt ?_;rw [<-HX.out.1, <-HHC.out, <-HQ.out];exact KO hv
      have la:=S1.out.ld R (by omega) Tryz.prog q (by omega);have lb:=S1.out.ld R (by omega) Tryz.prog c (by omega);have hcx:=S1.out.cmp HC.out (by omega) d[q]! d[c]!
      generalize d[q]! =x at la hcx hv
      generalize d[c]! =y at lb hcx hv
      have hdv:decide (cf x y<0)=true:=decide_eq_true hv;go_wp2_with fail
      go_quiet_grown (first|(go_at_fn g;refine Calls.grown_of (hcx _ _)))
      have S2:Aside (SWK enc k w0 blk off d (grow (wr.drewN nq) osq)):=S1.out.grown nq osq;clear la lb hcx S1
      generalize grow (wr.drewN nq) osq=w2 at S2⊢
      clear nq osq;go_wp2_with fail
      go_roundg (c-st)
      case measure=>omega
      case rel=>exact⟨st,c,rfl,by first|rfl|go_num,hls,by omega,by omega,aj _,HV,S2⟩
    · have HV:Aside (xY (ltOf cf) d a m b (TK a m b) (QZ a m b) (c+1) r):=by
        show xY _ _ _ _ _ _ _ _ _
        rw [HHC.out];refine HCS.out.up hlt ?_;rw [<-HX.out.1, <-HHC.out, <-HQ.out];exact Ic hv
      have la:=S1.out.ld R (by omega) Tryz.prog q (by omega);have lb:=S1.out.ld R (by omega) Tryz.prog c (by omega);have hcx:=S1.out.cmp HC.out (by omega) d[q]! d[c]!
      generalize d[q]! =x at la hcx hv
      generalize d[c]! =y at lb hcx hv
      have hdv:decide (cf x y<0)=false:=decide_eq_false hv;go_wp2_with fail
      go_quiet_grown (first|(go_at_fn g;refine Calls.grown_of (hcx _ _)))
      have S2:Aside (SWK enc k w0 blk off d (grow (wr.drewN nq) osq)):=S1.out.grown nq osq;clear la lb hcx S1
      generalize grow (wr.drewN nq) osq=w2 at S2⊢
      clear nq osq;go_wp2_with fail
      go_roundg (r-(c+1))
      case measure=>omega
      case rel=>exact⟨c+1,r,by first|rfl|go_num,rfl,by omega,by omega,hrh,aj _,HV,S2⟩
  · obtain rfl:st=r:=by omega
    obtain⟨e,he⟩:∃e:Nat,e=md+m-st:=⟨_,rfl⟩;have hcp:=HCS.out.done RY.out HAM.out.1 HAM.out.2 HA.out HB.out;rw [<-HX.out.1, <-he]at hcp;have we:IntKind.i64.wrap ((md:Int)+(m:Int)-(st:Int))=(md:Int)+(m:Int)-(st:Int):=(by rw [IntKind.wrap_i64]<;>omega);have ee:(md:Int)+(m:Int)-(st:Int)=(e:Int):=(by omega);have Ox:=ah ee;have c1:=hcp.s1;have c2:=hcp.s2;have c3:=hcp.e1;have c4:=hcp.e2;have c5:st<=md:=(by have:=hcp.m1;rw [<-HX.out.1]at this;omega);have c6:md<=e:=(by have:=hcp.m2;rw [<-HX.out.1]at this;omega);have gI:=ah hcp;have hem:(st<m/\ m<e)->st<m/\ m<e:=id;clear he ee hcp HCS;go_upto_region 39 with fail
    rw [Ox.out];obtain⟨q1,hq1⟩:=aqx (decide (st<m/\ m<e));have ZM:=ah hq1;clear hq1 we
    go_cut [185]from 178 to 185 (fun s wx=>s= .bool q1/\ wx=wr)
    case first=>
      by_cases h1:st<m
      · have h1z:(st:Int)< (m:Int):=by omega
        have z1:decide ((st:Int)< (m:Int))=true:=decide_eq_true h1z;by_cases h2:m<e
        · have h2z:(m:Int)< (e:Int):=by omega
          have z2:decide ((m:Int)< (e:Int))=true:=decide_eq_true h2z;go_wp2_with fail
          go_meet
          exact⟨by rw [ZM.out,Q8 h1 h2],rfl⟩
        · have h2z:¬ (m:Int)< (e:Int):=by omega
          have z2:decide ((m:Int)< (e:Int))=false:=decide_eq_false h2z;go_wp2_with fail
          go_meet
          exact⟨by rw [ZM.out,Q9 h2],rfl⟩
      · have h1z:¬ (st:Int)< (m:Int):=by omega
        have z1:decide ((st:Int)< (m:Int))=false:=decide_eq_false h1z;go_wp2_with fail
        go_meet
        exact⟨by rw [ZM.out,ZO h1],rfl⟩
    obtain⟨rfl,rfl⟩:=hcut
    rename World=>wr
    go_upto_if 185 with fail
    go_cut []from 186 to 191 (fun wx=>∃d1,Aside (qO d d1 st m e/\ SWK enc k w0 blk off d1 wx))
    case first=>
      cases q1
      · go_wp2_with fail
        go_meet
        refine⟨d, ?_,S1.out⟩;have h:=of_decide_eq_false ZM.out.symm;by_cases h1:st<m
        · obtain rfl:m=e:=by omega
          exact qO.ZI d
        · obtain rfl:st=m:=by omega
          exact qO.ZH d c3
      · have h:=of_decide_eq_true ZM.out.symm
        have hc:=ai7 k zE enc g cb blk off cap st m e d0 d w0 wr R hs S1.out h.1 h.2 (by omega) hsz;have Oq:=ah hc;clear hc h;go_wp2_with(go_at_call 194;refine Oq.out.mono ?_;rintro x w1 ⟨rfl,d1,hr,hS⟩;have HR1:Aside (qO d d1 st m e/\ SWK enc k w0 blk off d1 w1):=⟨hr,hS⟩;clear hr hS)
        go_meet
        exact⟨d1,HR1⟩
    obtain⟨d1,HR1⟩:=hcut
    rename World=>w1
    have z1:=HR1.out.1.size;have hrt:=gI.out.alV HA.out HB.out HR1.out.1;rw [<-HX.out.1]at hrt;have HRT:=ah hrt;have OZ:Hid (PermIn a b d d1):=ah (permIn_mono _ _ _ _ _ _ c1 c4 hb HR1.out.1.perm);clear hrt S1 ZM;obtain⟨q2,hq2⟩:=aqx (decide (a<st/\ st<md));have HQ2:=ah hq2;clear hq2;go_upto_region 41 with fail
    go_cut [199]from 192 to 199 (fun s wx=>s= .bool q2/\ wx=w1)
    case first=>
      by_cases h1:a<st
      · have h1z:(a:Int)< (st:Int):=by omega
        have z1:decide ((a:Int)< (st:Int))=true:=decide_eq_true h1z;by_cases h2:st<md
        · have h2z:(st:Int)< (md:Int):=by omega
          have z2:decide ((st:Int)< (md:Int))=true:=decide_eq_true h2z;go_wp2_with fail
          go_meet
          exact⟨by rw [HQ2.out,Q8 h1 h2],rfl⟩
        · have h2z:¬ (st:Int)< (md:Int):=by omega
          have z2:decide ((st:Int)< (md:Int))=false:=decide_eq_false h2z;go_wp2_with fail
          go_meet
          exact⟨by rw [HQ2.out,Q9 h2],rfl⟩
      · have h1z:¬ (a:Int)< (st:Int):=by omega
        have z1:decide ((a:Int)< (st:Int))=false:=decide_eq_false h1z;go_wp2_with fail
        go_meet
        exact⟨by rw [HQ2.out,ZO h1],rfl⟩
    obtain⟨rfl,rfl⟩:=hcut
    rename World=>w1
    go_upto_if 199 with fail
    go_cut []from 200 to 205 (fun wx=>∃d2,Aside (iF (ltOf cf) d1 d2 a md/\ SWK enc k w0 blk off d2 wx))
    case first=>
      cases q2
      · go_wp2_with fail
        go_meet
        exact⟨d1,Ie HQ2.out rfl HRT.out.s1 HRT.out.s2,HR1.out.2⟩
      · have h:=of_decide_eq_true HQ2.out.symm
        have hc:=IH.out a st md d1 w1 (by omega) (by omega) HR1.out.2 h.1 h.2 (by omega) (by omega) HRT.out.s1 HRT.out.s2;rw [z1]at hc;have Oq:=ah hc;clear hc h;go_wp2_with(go_at_call 185;refine Oq.out.mono ?_;rintro x w2 ⟨rfl,d2,hr,hS⟩;have HR2:Aside (iF (ltOf cf) d1 d2 a md/\ SWK enc k w0 blk off d2 w2):=⟨hr,hS⟩;clear hr hS)
        go_meet
        exact⟨d2,HR2⟩
    obtain⟨d2,HR2⟩:=hcut
    rename World=>w2
    have z2:=HR2.out.1.size;have wR:Hid (SortedIn (ltOf cf) md e d2):=ah (uo HRT.out.s3 HR2.out.1.perm (.inr (aj _)));have HS4:Hid (SortedIn (ltOf cf) e b d2):=ah (uo HRT.out.s4 HR2.out.1.perm (.inr c6));have bT:Hid (∀d3,iF (ltOf cf) d2 d3 md b->iF (ltOf cf) d d3 a b):=(ah fun d3 h3=>OO (by omega) (by omega) hb OZ.out HRT.out HR2.out.1 h3);obtain⟨q3,hq3⟩:=aqx (decide (md<e/\ e<b));have HQ3:=ah hq3;clear hq3 HQ2;go_upto_region 43 with fail
    go_cut [213]from 206 to 213 (fun s wx=>s= .bool q3/\ wx=w2)
    case first=>
      by_cases h1:md<e
      · have h1z:(md:Int)< (e:Int):=by omega
        have z1:decide ((md:Int)< (e:Int))=true:=decide_eq_true h1z;by_cases h2:e<b
        · have h2z:(e:Int)< (b:Int):=by omega
          have z2:decide ((e:Int)< (b:Int))=true:=decide_eq_true h2z;go_wp2_with fail
          go_meet
          exact⟨by rw [HQ3.out,Q8 h1 h2],rfl⟩
        · have h2z:¬ (e:Int)< (b:Int):=by omega
          have z2:decide ((e:Int)< (b:Int))=false:=decide_eq_false h2z;go_wp2_with fail
          go_meet
          exact⟨by rw [HQ3.out,Q9 h2],rfl⟩
      · have h1z:¬ (md:Int)< (e:Int):=by omega
        have z1:decide ((md:Int)< (e:Int))=false:=decide_eq_false h1z;go_wp2_with fail
        go_meet
        exact⟨by rw [HQ3.out,ZO h1],rfl⟩
    obtain⟨rfl,rfl⟩:=hcut
    rename World=>w2
    cases q3
    · go_wp2_with fail
      go_end0;exact⟨rfl,d2,bT.out d2 (Ie HQ3.out rfl wR.out HS4.out),HR2.out.2⟩
    · have h:=of_decide_eq_true HQ3.out.symm
      have hc:=IH.out md e b d2 w2 (by omega) (by omega) HR2.out.2 h.1 h.2 (by omega) (by omega) wR.out HS4.out;rw [z2,z1]at hc;have Oq:=ah hc;clear hc h;go_wp2_with(go_at_call 185;refine Oq.out.mono ?_;rintro x w3 ⟨rfl,d3,hr,hS⟩;have HR3:Aside (iF (ltOf cf) d2 d3 md b/\ SWK enc k w0 blk off d3 w3):=⟨hr,hS⟩;clear hr hS)
      go_end0;exact⟨rfl,d3,bT.out d3 HR3.out.1,HR3.out.2⟩
theorem TL(k:Nat)(zE:∀w,(Go.sizeOf 145).run Tryz.prog w= .ok k w)(enc:α->List Value)(cf:α->α->Int)(hO:SWO (ltOf cf))(g:Nat)(cb:Array Value)(blk off cap:Nat)(d0:Array α)(w0:World)
  (eg:∀args w,(callFunc g args).run Tryz.prog w= .ok (.enter g args) w) (hcmp:CmpLays Tryz.prog g cb enc k cf blk off d0.size w0) (R:RowK enc k w0 blk off d0):
  ∀ (N a m b:Nat) (d:Array α) (w:World),b-a<N->d0.size=d.size->SWK enc k w0 blk off d w->a<m->m<b->b<=d.size->d.size<4611686018427387904->SortedIn (ltOf cf) a m d->SortedIn (ltOf cf) m b d->
  Calls Tryz.prog 185 #[.slice (some ⟨blk,off,none⟩) d.size cap,.int .i64 (a:Int),.int .i64 (m:Int),.int .i64 (b:Int),.func (.func g) #[] cb] w fun e w'=>e= .returned (.tuple #[])/\ ∃d',iF (ltOf cf) d d' a b/\ SWK enc k w0 blk off d' w'
 |0,_,_,_,_,_,h,_,_,_,_,_,_,_,_=>absurd h (Nat.not_lt_zero _)
 |N+1,a,m,b,d,w,hN,hs,S,ham,hmb,hb,hsz,hsA,hsB=>by
  by_cases h1:m=a+1
  · subst h1
    exact abT k zE enc cf hO g cb blk off cap d0 w0 eg hcmp R a b d w hs S hmb hb hsz hsB
  · by_cases h2:b=m+1
    · exact ZN k zE enc cf hO g cb blk off cap d0 w0 eg hcmp R a m b h2 d w hs S (by omega) hb hsz hsA
    · exact ZP k zE enc cf hO g cb blk off cap d0 w0 eg hcmp R N (TL k zE enc cf hO g cb blk off cap d0 w0 eg hcmp R N) a m b d w hN hs S (by omega) (by omega) hb hsz hsA hsB
open Go.RowKit Go.Shelf Go.Lib Go.Sort Go.Proofs
def ZQ:Go.Shelf.Ren:=⟨fun|20=>184|n=>n,fun|22=>151|24=>145|25=>188|3=>3|0=>0|4=>4|n=>n,fun|n=>n⟩
theorem al1:Go.Proofs.SlLaysF0.n20 Tryz.prog ZQ:= {
 mixed:=by kernel_rfl
 f20:=⟨Tryz.f184.name,by decide,Tryz.func184.trans (congrArg some (by kernel_rfl))⟩
 t0:=Tryz.underlying0
 a0:=Tryz.isAgg0
 z0:=Tryz.sizeOf0
 v0:=Tryz.zeroValue0
 t3:=Tryz.underlying3
 a3:=Tryz.isAgg3
 z3:=Tryz.sizeOf3
 v3:=Tryz.zeroValue3
 t4:=Tryz.underlying4
 a4:=Tryz.isAgg4
 z4:=Tryz.sizeOf4
 v4:=Tryz.zeroValue4
 t22:=Tryz.underlying151
 a22:=Tryz.isAgg151
 z22:=Tryz.sizeOf151
 v22:=Tryz.zeroValue151
 t25:=Tryz.underlying188
 a25:=Tryz.isAgg188
 z25:=Tryz.sizeOf188
 v25:=Tryz.zeroValue188
}
variable {α : Type} [Inhabited α]
theorem aja(k:Nat)(zE:∀w,(Go.sizeOf 145).run Tryz.prog w= .ok k w)(enc:α->List Value)(cf:α->α->Int)(g:Nat)(cb:Array Value)(blk off cap a b:Nat)(d0 d:Array α)(w0 w:World)
  (eg:∀args w,(callFunc g args).run Tryz.prog w= .ok (.enter g args) w) (hcmp:CmpLays Tryz.prog g cb enc k cf blk off d0.size w0) (R:RowK enc k w0 blk off d0) (hs:d0.size=d.size) (S:SWK enc k w0 blk off d w) (hO:SWO (ltOf cf)) (hab:a<=b) (hb:b<=d.size) (hsz:d.size<4611686018427387904):
  Calls Tryz.prog 184 #[.slice (some ⟨blk,off,none⟩) d.size cap,.int .i64 (a:Int),.int .i64 (b:Int),.func (.func g) #[] cb] w fun e w'=>e= .returned (.tuple #[])/\ ∃d',iF (ltOf cf) d d' a b/\ SWK enc k w0 blk off d' w':=by
 have hi:=insertionSort_holds hO d a b hab hb;have hs':(Sort.insertionSort (ltOf cf) d a b).size=d.size:=hi.1.1;have hC:CmpLays Tryz.prog g cb enc k cf blk off d.size w:=fun m os dk hdk x y=>by
  obtain⟨n0,os0,rfl⟩:=S;rw [sortWorldK_on enc k w0 blk off n0 m d dk os0 os R.hblk hdk];exact hcmp _ _ dk (by omega) x y
 have h:=AnyQ.insertionSortCmpFunc al1 k Tryz.isAgg145 zE enc R.hk R.h1 cf g cb blk off cap a b d w eg hC (S.holds R.hblk R.hH hs.symm) (S.lt R.hblk) hab hb hsz;refine Calls.mono (P:=Tryz.prog) (f:=184) h ?_;rintro e w' ⟨rfl,n,os,rfl⟩;exact⟨rfl,_,⟨hi.1,hi.2⟩,S.on R.hblk n _ os hs'⟩
theorem Wp{t bs A:Nat}(h:A=t*(2*bs)):2*t*bs=A/\ (2*t+1)*bs=A+bs/\ (t+1)*(2*bs)=A+2*bs/\ 2*(t+1)*bs=A+2*bs:=by
 have e:2*t*bs=A:=(by rw [h,Nat.mul_comm 2 t,Nat.mul_assoc]);refine⟨e,by rw [Nat.add_mul,e,Nat.one_mul],by rw [Nat.add_mul, <-h,Nat.one_mul], ?_⟩;rw [Nat.mul_add,Nat.add_mul,e]
theorem OQ{lt:α->α->Bool}{d:Array α}{a b:Nat}(h:SortedIn lt a b d):iF lt d d a b:=⟨permIn_refl _ _ _,h⟩
theorem ZR(k:Nat)(zE:∀w,(Go.sizeOf 145).run Tryz.prog w= .ok k w)(enc:α->List Value)(cf:α->α->Int)(hO:SWO (ltOf cf))(g:Nat)(cb:Array Value)(blk off cap:Nat)(d:Array α)(w:World)
  (eg:∀args w,(callFunc g args).run Tryz.prog w= .ok (.enter g args) w) (hcmp:CmpLays Tryz.prog g cb enc k cf blk off d.size w) (R:RowK enc k w blk off d) (hsz:d.size<1152921504606846976):
  Calls Tryz.prog 165 #[.slice (some ⟨blk,off,none⟩) d.size cap,.int .i64 (d.size:Int),.func (.func g) #[] cb] w fun e w'=>e= .returned (.tuple #[])/\ ∃d',iF (ltOf cf) d d' 0 d.size/\ SWK enc k w blk off d' w':=by
 obtain⟨n,hn⟩:=aqx (d.size);have Zo:Hid (∀ (a b:Nat) (dk:Array α) (W:World),dk.size=n->SWK enc k w blk off dk W->a<=b->b<=n->Calls Tryz.prog 184 #[.slice (some ⟨blk,off,none⟩) n cap,.int .i64 (a:Int),.int .i64 (b:Int),.func (.func g) #[] cb] W fun e w'=>e= .returned (.tuple #[])/\ ∃d',iF (ltOf cf) dk d' a b/\ SWK enc k w blk off d' w'):=ah fun a b dk W h1 h2 h3 h4=>by
  have:=aja k zE enc cf g cb blk off cap a b d dk w W eg hcmp R (by omega) h2 hO h3 (by omega) (by omega)
  rwa [h1]at this
 have ajb:Hid (∀ (a m b:Nat) (dk:Array α) (W:World),dk.size=n->SWK enc k w blk off dk W->a<m->m<b->b<=n->SortedIn (ltOf cf) a m dk->SortedIn (ltOf cf) m b dk->Calls Tryz.prog 185 #[.slice (some ⟨blk,off,none⟩) n cap,.int .i64 (a:Int),.int .i64 (m:Int),.int .i64 (b:Int),.func (.func g) #[] cb] W fun e w'=>e= .returned (.tuple #[])/\ ∃d',iF (ltOf cf) dk d' a b/\ SWK enc k w blk off d' w'):=ah fun a m b dk W h1 h2 h3 h4 h5 h6 h7=>by
  have:=TL k zE enc cf hO g cb blk off cap d w eg hcmp R (b-a+1) a m b dk W (by omega) (by omega) h2 h3 h4 (by omega) (by omega) h6 h7
  rwa [h1]at this
 have S0:Aside (SWK enc k w blk off d w):=SWK.start R.hH;rw [<-hn];have HN:=ah hn;have hsz':n<1152921504606846976:=(by omega);clear eg hcmp R hsz hO hn;go_enter Tryz.func165,Tryz.ntmps165;go_wp2
 go_loopg [7,8] n (fun kx s1 s2 wr=>∃ (t A B:Nat) (dk:Array α),s1= .int .i64 (A:Int)/\ s2= .int .i64 (B:Int)/\ A<=n/\ A<B/\ B<=n+20/\ n-A<=kx/\ Aside (A=t*20/\ B=A+20/\ dk.size=n/\ PermIn 0 n d dk/\ Done (ltOf cf) 20 t dk)/\ Aside (SWK enc k w blk off dk wr))
 case atStart=>exact⟨0,0,20,d,rfl,by first|rfl|go_num,aB _,by omega,by omega,aj _,⟨rfl,rfl,HN.out.symm,permIn_refl _ _ _,fun u hu=>absurd hu (Nat.not_lt_zero _)⟩,S0⟩
 case round=>
  clear S0;obtain⟨t,A,B,dk,rfl,rfl,hAn,hAB,hBn,hkx,HX,S1⟩:=hrel;by_cases hle:B<=n
  · have hlez:(B:Int)<=(n:Int):=by omega
    have hc:=Zo.out A B dk wr HX.out.2.2.1 S1.out (by omega) hle;have Oq:=ah hc;clear hc;go_wp2_with(go_at_call 184;refine Oq.out.mono ?_;rintro e w1 ⟨rfl,d1,hr,hS⟩;have HR1:Aside (iF (ltOf cf) dk d1 A B/\ SWK enc k w blk off d1 w1):=⟨hr,hS⟩;clear hr hS)
    go_roundg (n-B)
    case measure=>omega
    case rel=>
     obtain⟨e1,e2,e3,e4,e5⟩:=HX.out;refine⟨t+1,B,B+20,d1,rfl,by first|rfl|go_num,hle,by omega,by omega,aj _,⟨by omega,rfl,by rw [HR1.out.1.size];exact e3, ?_, ?_⟩,HR1.out.2⟩
     · exact permIn_trans _ _ _ _ _ e4 (permIn_mono _ _ _ _ _ _ (aB _) hle (by omega) HR1.out.1.perm)
     · refine e5.step ?_
       rw [<-e1, <-e2];exact HR1.out.1
  · have hlez:¬ (B:Int)<=(n:Int):=by omega
    have hc:=Zo.out A n dk wr HX.out.2.2.1 S1.out hAn (aj _);have Oq:=ah hc;clear hc;go_wp2_with(go_at_call 184;refine Oq.out.mono ?_;rintro e w1 ⟨rfl,d1,hr,hS⟩;have HR1:Aside (iF (ltOf cf) dk d1 A n/\ SWK enc k w blk off d1 w1):=⟨hr,hS⟩;clear hr hS)
    have HB:Hid (d1.size=n/\ PermIn 0 n d d1/\ DJ (ltOf cf) 20 n 0 d1):=ah (by
     obtain⟨e1,e2,e3,e4,e5⟩:=HX.out;refine⟨by rw [HR1.out.1.size];exact e3,permIn_trans _ _ _ _ _ e4 (permIn_mono _ _ _ _ _ _ (aB _) (aj _) (by omega) HR1.out.1.perm), ?_⟩;refine e5.whole (by omega) (by omega) ?_;rw [<-e1];exact HR1.out.1)
    clear HX S1 Oq
    go_loopg [6] (n-20) (fun kx s1 wr=>∃ (bs:Nat) (dk:Array α),s1= .int .i64 (bs:Int)/\ 20<=bs/\ bs<2305843009213693952/\ n-bs<=kx/\ Aside (dk.size=n/\ PermIn 0 n d dk/\ DJ (ltOf cf) bs n 0 dk)/\ Aside (SWK enc k w blk off dk wr))
    case atStart=>exact⟨20,d1,by first|rfl|go_num,aj _,by omega,aj _,HB.out,HR1.out.2⟩
    case round=>
     clear HB HR1;obtain⟨bs,dk,rfl,apT,hbl,ai9,HX,S1⟩:=hrel;by_cases hlt:bs<n
     · have hltz:(bs:Int)< (n:Int):=by omega
       go_wp2_with fail
       go_loopg [7,8] n (fun kx s1 s2 wr=>∃ (t A B:Nat) (dk:Array α),s1= .int .i64 (A:Int)/\ s2= .int .i64 (B:Int)/\ A<=n/\ A+2*bs=B/\ n-A<=kx/\ Aside (A=t*(2*bs)/\ dk.size=n/\ PermIn 0 n d dk/\ Done (ltOf cf) (2*bs) t dk/\ DJ (ltOf cf) bs n (2*t) dk)/\ Aside (SWK enc k w blk off dk wr))
       case atStart=>exact⟨0,0,2*bs,dk,rfl,by first|rfl|go_num,aB _,by omega,aj _,⟨by omega,HX.out.1,HX.out.2.1,(fun u hu=>absurd hu (Nat.not_lt_zero _)),HX.out.2.2⟩,S1⟩
       case round=>
        clear HX S1;obtain⟨t,A,B,dk,rfl,rfl,hAn,hAB,apU,HX,S1⟩:=hrel;have HAB:=ah hAB;by_cases hle:B<=n
        · have hlez:(B:Int)<=(n:Int):=by omega
          have hc:=ajb.out A (A+bs) B dk wr HX.out.2.1 S1.out (by omega) (by omega) hle (by
            obtain⟨e1,e2,e3,e4,e5⟩:=HX.out;have h:=e5.at_ (by rw [(Wp e1).1];omega)
            rwa [(Wp e1).1]at h) (by
            obtain⟨e1,e2,e3,e4,e5⟩:=HX.out;have h:=(e5.out (permIn_refl dk 0 0) (show 2*t<=2*t+1 by omega) (aB _)).at_ (by rw [(Wp e1).2.1];omega)
            rwa [(Wp e1).2.1,show A+bs+bs=B by omega]at h)
          rw [show((A+bs:Nat):Int)=(A:Int)+(bs:Int) by omega]at hc;have Oq:=ah hc;have hBl:B<4611686018427387904:=(by omega);have hAl:A+bs<4611686018427387904:=(by omega);clear hc hAB;go_wp2_with(go_at_call 185;refine Oq.out.mono ?_;rintro e w1 ⟨rfl,d1,hr,hS⟩;have HR1:Aside (iF (ltOf cf) dk d1 A B/\ SWK enc k w blk off d1 w1):=⟨hr,hS⟩;clear hr hS)
          go_roundg (n-B)
          case measure=>have:=HAB.out;omega
          case rel=>
            obtain⟨e1,e2,e3,e4,e5⟩:=HX.out;have hAB:=HAB.out;refine⟨t+1,B,B+2*bs,d1,rfl,by first|rfl|go_num,hle,rfl,aj _,⟨by rw [(Wp e1).2.2.1];omega,by rw [HR1.out.1.size];exact e2, ?_, ?_, ?_⟩,HR1.out.2⟩
            · exact permIn_trans _ _ _ _ _ e3 (permIn_mono _ _ _ _ _ _ (aB _) hle (by omega) HR1.out.1.perm)
            · refine e4.step ?_
              rw [<-e1,hAB];exact HR1.out.1
            · exact e5.out HR1.out.1.perm (by omega) (by rw [(Wp e1).2.2.2];omega)
        · have hlez:¬ (B:Int)<=(n:Int):=by omega
          by_cases hm:A+bs<n
          · have hmz:(A:Int)+(bs:Int)< (n:Int):=by omega
            have hc:=ajb.out A (A+bs) n dk wr HX.out.2.1 S1.out (by omega) hm (aj _) (by
              obtain⟨e1,e2,e3,e4,e5⟩:=HX.out;have h:=e5.at_ (by rw [(Wp e1).1];omega)
              rwa [(Wp e1).1]at h) (by
              obtain⟨e1,e2,e3,e4,e5⟩:=HX.out;have h:=(e5.out (permIn_refl dk 0 0) (show 2*t<=2*t+1 by omega) (aB _)).last (by rw [(Wp e1).2.1];omega)
              rwa [(Wp e1).2.1]at h)
            rw [show((A+bs:Nat):Int)=(A:Int)+(bs:Int) by omega]at hc;have Oq:=ah hc;have hBl:B<4611686018427387904:=(by omega);have hAl:A+bs<4611686018427387904:=(by omega);clear hc hAB;go_wp2_with(go_at_call 185;refine Oq.out.mono ?_;rintro e w1 ⟨rfl,d1,hr,hS⟩;have HR1:Aside (iF (ltOf cf) dk d1 A n/\ SWK enc k w blk off d1 w1):=⟨hr,hS⟩;clear hr hS)
            go_roundg (n-bs*2)
            case measure=>omega
            case rel=>
              obtain⟨e1,e2,e3,e4,e5⟩:=HX.out;have hAB:=HAB.out;refine⟨bs*2,d1,by first|rfl|go_num,by omega,by omega,aj _,⟨by rw [HR1.out.1.size];exact e2, ?_, ?_⟩,HR1.out.2⟩
              · exact permIn_trans _ _ _ _ _ e3 (permIn_mono _ _ _ _ _ _ (aB _) (aj _) (by omega) HR1.out.1.perm)
              · rw [Nat.mul_comm bs 2]
                refine e4.whole (by omega) (by omega) ?_;rw [<-e1];exact HR1.out.1
          · have hmz:¬ (A:Int)+(bs:Int)< (n:Int):=by omega
            have hBl:B<4611686018427387904:=(by omega);have hAl:A+bs<4611686018427387904:=(by omega);clear hAB;go_wp2_with fail
            go_roundg (n-bs*2)
            case measure=>omega
            case rel=>
              obtain⟨e1,e2,e3,e4,e5⟩:=HX.out;have hAB:=HAB.out;refine⟨bs*2,dk,by first|rfl|go_num,by omega,by omega,aj _,⟨e2,e3, ?_⟩,S1⟩;rw [Nat.mul_comm bs 2];refine e4.whole (by omega) (by omega) (OQ ?_);have h:=e5.last (by rw [(Wp e1).1];omega)
              rwa [(Wp e1).1,e1]at h
     · have hltz:¬ (bs:Int)< (n:Int):=by omega
       go_wp2_with fail
       go_end0;exact⟨rfl,dk,⟨HX.out.2.1,HX.out.2.2.one (by omega)⟩,S1.out⟩
theorem KP(k:Nat)(zE:∀w,(Go.sizeOf 145).run Tryz.prog w= .ok k w)(enc:α->List Value)(cf:α->α->Int)(hO:SWO (ltOf cf))(g:Nat)(cb:Array Value)(blk off cap:Nat)(d:Array α)(w:World)
  (eg:∀args w,(callFunc g args).run Tryz.prog w= .ok (.enter g args) w) (hcmp:CmpLays Tryz.prog g cb enc k cf blk off d.size w) (R:RowK enc k w blk off d) (hsz:d.size<1152921504606846976):
  Calls Tryz.prog 136 #[.slice (some ⟨blk,off,none⟩) d.size cap,.func (.func g) #[] cb] w fun e w'=>e= .returned (.tuple #[])/\ ∃d',iF (ltOf cf) d d' 0 d.size/\ SWK enc k w blk off d' w':=by
 have HC:=ah (ZR k zE enc cf hO g cb blk off cap d w eg hcmp R hsz);clear hcmp R eg;go_enter Tryz.func136,Tryz.ntmps136;go_wp2_with(go_at_call 165;refine HC.out.mono ?_;rintro e w1 ⟨rfl,d1,hr,hS⟩)
 go_end0;exact⟨rfl,d1,hr,hS⟩
theorem Et(cap:Nat)(fv:Value)(w:World):Calls Tryz.prog 136 #[.slice none 0 cap,fv] w fun e w'=>e= .returned (.tuple #[])/\ w'=w:=by
 have hi:Calls Tryz.prog 184 #[.slice none 0 cap,.int .i64 0,.int .i64 0,fv] w fun e w'=>e= .returned (.tuple #[])/\ w'=w:=by
  go_enter Tryz.func184,Tryz.ntmps184;go_wp2
  go_loopg [8] 0 (fun kx s wr=>s= .int .i64 1/\ wr=w)
  case atStart=>exact⟨by first|rfl|go_num,rfl⟩
  case round=>
   obtain⟨rfl,rfl⟩:=hrel;go_wp2
   go_end0;exact⟨rfl,rfl⟩
 have hs:Calls Tryz.prog 165 #[.slice none 0 cap,.int .i64 0,fv] w fun e w'=>e= .returned (.tuple #[])/\ w'=w:=by
  have HI:=ah hi;clear hi;go_enter Tryz.func165,Tryz.ntmps165;go_wp2
  go_loopg [7,8] 0 (fun kx s1 s2 wr=>s1= .int .i64 0/\ s2= .int .i64 20/\ wr=w)
  case atStart=>exact⟨rfl,rfl,rfl⟩
  case round=>
   obtain⟨rfl,rfl,rfl⟩:=hrel;go_wp2_with(go_at_call 184;refine HI.out.mono ?_;rintro e w1 ⟨rfl,h1⟩;subst h1)
   go_loopg [6] 0 (fun kx s1 wx=>s1= .int .i64 20/\ wx=w1)
   case atStart=>exact⟨rfl,rfl⟩
   case round=>
    obtain⟨rfl,rfl⟩:=hrel;go_wp2_with fail
    go_end0;exact⟨rfl,rfl⟩
 have HS:=ah hs;clear hi hs;go_enter Tryz.func136,Tryz.ntmps136;go_wp2_with(go_at_call 165;refine HS.out.mono ?_;rintro e w1 ⟨rfl,rfl⟩)
 go_end0;exact⟨rfl,rfl⟩
open Go.RowKit Go.Shelf Go.Lib Go.Sort Go.Proofs
structure Rk where
 m:Mp
 r:Int
instance:Inhabited Rk:=⟨⟨zMp,0⟩⟩
def tq(x:Rk):Nat->Value
 |0=> .int .u64 x.m.fZ
 |1=> .int .u64 x.m.pa
 |2=> .int .u64 x.m.size
 |3=> .int .i64 x.m.perm
 |4=> .int .i64 x.m.kind
 |_=> .int .i64 x.r
theorem EH(x:Rk)(n:Nat):∀i,i<n->(tq x i).oneCell'=true:=by
 intro i _;unfold tq
 split<;>rfl
def zRk:Rk:=⟨zMp,0⟩
theorem zF:(Tryz.prog.info? 145).map (·.size)=some 6:=by kernel_rfl
theorem Fp(w:World):(zeroValue 145).run Tryz.prog w= .ok (.agg (vec 6 (tq zRk))) w:=
 (zero_of_info (P:=Tryz.prog) (t:=145) (v:= .agg (vec 6 (tq zRk))) (n:=6) (by kernel_rfl)).1 w
abbrev BR(x:Rk):List Value:=[.int .u64 x.m.fZ,.int .u64 x.m.pa,.int .u64 x.m.size,.int .i64 x.m.perm,.int .i64 x.m.kind,.int .i64 x.r]
def KQ(x y:Int):Int:=if x<y then-1 else if y<x then 1 else 0
def orN(x y:Int):Int:=if x=0 then y else x
theorem Rh(x:Int)(w:World):Calls Tryz.prog 186 #[.int .u64 x] w fun e w'=>e= .returned (.bool false)/\ w'=w:=by
 go_enter Tryz.func186,Tryz.ntmps186;go_wp2
 go_ret;exact⟨by simp,rfl⟩
theorem Ri(x:Int)(w:World):Calls Tryz.prog 187 #[.int .i64 x] w fun e w'=>e= .returned (.bool false)/\ w'=w:=by
 go_enter Tryz.func187,Tryz.ntmps187;go_wp2
 go_ret;exact⟨by simp,rfl⟩
theorem ZT(x y:Int)(w:World):Calls Tryz.prog 167 #[.int .u64 x,.int .u64 y] w fun e w'=>e= .returned (.int .i64 (KQ x y))/\ w'=w:=by
 go_enter Tryz.func167,Tryz.ntmps167;go_wp2_with(go_at_call 186;refine(Rh _ _).mono ?_;rintro e w' ⟨rfl,rfl⟩)
 all_goals (go_ret;refine⟨?_,rfl⟩;unfold KQ;(repeat' split)<;>first|rfl|(exfalso;omega))
theorem ZU(x y:Int)(w:World):Calls Tryz.prog 168 #[.int .i64 x,.int .i64 y] w fun e w'=>e= .returned (.int .i64 (KQ x y))/\ w'=w:=by
 go_enter Tryz.func168,Tryz.ntmps168;go_wp2_with(go_at_call 187;refine(Ri _ _).mono ?_;rintro e w' ⟨rfl,rfl⟩)
 all_goals (go_ret;refine⟨?_,rfl⟩;unfold KQ;(repeat' split)<;>first|rfl|(exfalso;omega))
theorem aeS(a b:Int)(B:Nat)(w:World)(c0:w.cell? ⟨B,0,none⟩=some (.int .i64 a))(c1:w.cell? ⟨B,1,none⟩=some (.int .i64 b)):
  Calls Tryz.prog 166 #[.slice (some ⟨B,0,none⟩) 2 2] w fun e w'=>e= .returned (.int .i64 (orN a b))/\ w'=w:=by
 have HO:Hid (orN a b=if a=0 then b else a):=ah rfl
 generalize orN a b=r at HO⊢
 go_enter Tryz.func166,Tryz.ntmps166;go_wp2
 go_loopg [8] 2 (fun kx s wr=>∃k:Nat,s= .int .i64 (k:Int)/\ k<=2/\ 2-k<=kx/\ Aside ((1<=k->a=0)/\ (2<=k->b=0))/\ wr=w)
 case atStart=>exact⟨0,rfl,by omega,by omega,⟨(fun h=>by omega),(fun h=>by omega)⟩,rfl⟩
 case round=>
  obtain⟨k,rfl,hk,hkx,HK,hwr⟩:=hrel;subst hwr;rcases(by omega:k=0∨k=1∨k=2)with rfl|rfl|rfl
  · by_cases ha:a=0
    · have ha2:(a !=0)=false:=by simp [ha]
      have HA:=ah ha;clear ha;go_wp2_with fail
      go_roundg 1
      case measure=>omega
      case rel=>exact⟨1,by first|rfl|go_num,by omega,by omega,⟨fun _=>HA.out,fun h=>by omega⟩,rfl⟩
    · have ha2:(a !=0)=true:=by simp [ha]
      have HR:=ah (HO.out.trans (if_neg ha));clear ha;go_wp2_with fail
      (try simp only [Exit.inBlock,Exit.then])
      go_ret;exact⟨by rw [HR.out];rfl,rfl⟩
  · by_cases hb:b=0
    · have hb2:(b !=0)=false:=by simp [hb]
      have HB:=ah hb;clear hb;go_wp2_with fail
      go_roundg 0
      case measure=>omega
      case rel=>exact⟨2,by first|rfl|go_num,by omega,by omega,⟨fun _=>HK.out.1 (by omega),fun _=>HB.out⟩,rfl⟩
    · have hb2:(b !=0)=true:=by simp [hb]
      have HR:=ah (HO.out.trans (if_pos (HK.out.1 (by omega))));clear hb;go_wp2_with fail
      (try simp only [Exit.inBlock,Exit.then])
      go_ret;exact⟨by rw [HR.out];rfl,rfl⟩
  · have HR:=ah ((HO.out.trans (if_pos (HK.out.1 (by omega)))).trans (HK.out.2 (by omega)))
    go_wp2_with fail
    go_ret;exact⟨by rw [HR.out];rfl,rfl⟩
def GR(V Y:World):Prop:=∃n os,Y=grow (V.drewN n) os
theorem GR.refl(V:World):GR V V:=⟨0, #[],by rw [grow_empty];rfl⟩
theorem GR.trans{X Y Z:World}(h:GR X Y)(k:GR Y Z):GR X Z:=by
 obtain⟨n,os,rfl⟩:=h;obtain⟨m,os2,rfl⟩:=k;exact⟨n+m,os++os2,by
  show grow (grow ((X.drewN n).drewN m) os) os2=_
  rw [grow_grow];show grow { X with drawn:=X.drawn+n+m } _=grow { X with drawn:=X.drawn+(n+m) } _
  rw [Nat.add_assoc]⟩
theorem GR.alloc{V Y:World}(h:GR V Y)(o:Obj):GR V (Y.alloc o):=h.trans ⟨0, #[o],by rw [alloc_eq_grow];rfl⟩
theorem GR.drew{V Y:World}(h:GR V Y):GR V Y.drew:=h.trans ⟨1, #[],by rw [grow_empty];rfl⟩
theorem GR.cell{V Y:World}(h:GR V Y){p:Addr}{v:Value}(hc:V.cell? p=some v):Y.cell? p=some v:=by
 obtain⟨n,os,rfl⟩:=h;rw [cell?_grow _ _ _ (by exact aG V p hc)];exact hc
theorem abU:(Tryz.prog.info? 3).map (fun i=>(i.zero,i.size,i.bytes))=some (some (.int .i64 0),1,8):=by kernel_rfl
theorem Rj(a b:Int)(w:World):(Instr.buildSlice 165 2 #[(0,.int .i64 a),(1,.int .i64 b)]).run Tryz.prog w= .ok (.slice (some ⟨w.heap.size,0,none⟩) 2 2) (w.alloc (.cells #[.int .i64 a,.int .i64 b] 3)):=by
 obtain⟨i0,hi,hz0,hz1,hz2⟩:=info_parts abU;refine run_buildSlice (P:=Tryz.prog) w 165 3 2 _ _ i0 (.int .i64 0) Tryz.underlying165 hi hz0 (by rw [hz1];decide) (by rw [hz1];decide) ?_;rw [hz1]
 kernel_rfl
def ltB(x y:Rk):Int:=orN (KQ x.m.fZ y.m.fZ) (KQ x.r y.r)
theorem Rl(x y:Rk)(w:World):Calls Tryz.prog 137 #[.agg (BR x).toArray,.agg (BR y).toArray] w fun e w'=>e= .returned (.int .i64 (ltB x y))/\ ∃q os',w'=grow (w.drewN q) os':=by
 obtain⟨⟨x0,x1,x2,x3,x4⟩,xr⟩:=x;obtain⟨⟨y0,y1,y2,y3,y4⟩,yr⟩:=y;obtain⟨r1,hr1⟩:=aqx (KQ x0 y0);obtain⟨r2,hr2⟩:=aqx (KQ xr yr);obtain⟨r3,hr3⟩:=aqx (orN r1 r2);have e3:ltB ⟨⟨x0,x1,x2,x3,x4⟩,xr⟩ ⟨⟨y0,y1,y2,y3,y4⟩,yr⟩=r3:=(by unfold ltB;rw [hr3,hr1,hr2]);rw [e3];have H1:=(ah fun W=>ZT x0 y0 W);have H2:=(ah fun W=>ZU xr yr W);have H3:=(ah fun B W h1 h2=>aeS r1 r2 B W h1 h2);rw [<-hr1]at H1;rw [<-hr2]at H2;rw [<-hr3]at H3;clear hr1 hr2 hr3 e3;obtain⟨V,hV⟩:=aqx ((w.alloc (.cells #[.int .u64 x0,.int .u64 x1,.int .u64 x2,.int .i64 x3,.int .i64 x4,.int .i64 xr] 145)).alloc (.cells #[.int .u64 y0,.int .u64 y1,.int .u64 y2,.int .i64 y3,.int .i64 y4,.int .i64 yr] 145));have hG:GR w V:=(by rw [hV];exact((GR.refl w).alloc _).alloc _);have HV:=ah hV;have HG:=ah hG;have q0:V.cell? ⟨w.heap.size,0,none⟩=some (.int .u64 x0):=(by rw [hV];simp);have q1:V.cell? ⟨w.heap.size,5,none⟩=some (.int .i64 xr):=(by rw [hV];simp);have q2:V.cell? ⟨w.heap.size+1,0,none⟩=some (.int .u64 y0):=(by rw [hV];simp);have q3:V.cell? ⟨w.heap.size+1,5,none⟩=some (.int .i64 yr):=(by rw [hV];simp);have HQ:=ah (ak q0 (ak q1 (ak q2 q3)));obtain⟨g,hg⟩:=aqx (w.heap.size);obtain⟨h,hh⟩:=aqx (w.heap.size+1);have HGH:=ah (ak hg hh);rw [<-hh, <-hg]at HQ;clear hV hG q0 q1 q2 q3 hg hh;go_enter Tryz.func137,Tryz.ntmps137;go_upto_region 1 with fail
 rw [<-HV.out];rw [<-HGH.out.2, <-HGH.out.1];refine wp_region_held_drew (S:=fun Y=>GR V Y) (by kernel_rfl) (GR.drew (GR.refl V)) (fun hS=> ?_);refine tA 0 ?_;refine tA 1 ?_;refine tP 2 (hy:=by(intro W hW;have hc:=(show GR V W from hW).cell HQ.out.1;clear hW;go_simp;(try with_reducible rfl))) ?_;refine tA 3 ?_;refine tA 4 ?_;refine tP 5 (hy:=by(intro W hW;have hc:=(show GR V W from hW).cell HQ.out.2.2.1;clear hW;go_simp;(try with_reducible rfl))) ?_;refine tA 7 ?_;refine tP 8 (hy:=by(intro W hW;have hc:=(show GR V W from hW).cell HQ.out.2.1;clear hW;go_simp;(try with_reducible rfl))) ?_;refine tA 9 ?_;refine tP 10 (hy:=by(intro W hW;have hc:=(show GR V W from hW).cell HQ.out.2.2.2;clear hW;go_simp;(try with_reducible rfl))) ?_;refine oQ 6 fun K6 hK6=> ?_;go_simp;refine(H1.out _).mono ?_;rintro e y6 ⟨rfl,rfl⟩;refine hK6 _ _ hS (fun hS6=> ?_);clear hS hK6 K6;refine oQ 11 fun nN dN=> ?_;go_simp;refine(H2.out _).mono ?_;rintro e jq ⟨rfl,rfl⟩;refine dN _ _ hS6 (fun dB=> ?_);clear hS6 dN nN;refine oQ 12 fun wU jk=> ?_;have hbs:=(fun W=>Rj r1 r2 W);go_simp;have c0:=World.cell?_alloc_new;refine jk _ _ ((show GR V _ from dB).alloc (.cells #[.int .i64 r1,.int .i64 r2] 3)) (fun jl=> ?_);clear hbs jk wU dB;refine oQ 13 fun wV jm=> ?_;go_simp;refine(H3.out _ _ (by simp) (by simp)).mono ?_;rintro e y13 ⟨rfl,rfl⟩;refine jm _ _ jl (fun lu=> ?_);clear jl jm wV;refine tA 14 ?_;refine wpAnyH_done (by kernel_rfl) ?_ _;go_wp2
 go_ret;exact⟨rfl,HG.out.trans lu⟩
open Go.RowKit Go.Shelf Go.Lib Go.Sort Go.Proofs
abbrev Au(w:World)(base:Nat)(v:Value)(l:List Rk):Prop:=gW 145 6 tq w base v l
theorem ZV(x:Rk)(i:Nat)(h:i<6):(BR x)[i]! =tq x i:=by
 rcases(by omega:i=0∨i=1∨i=2∨i=3∨i=4∨i=5)with rfl|rfl|rfl|rfl|rfl|rfl<;>rfl
theorem TM(l:List Rk):(flatK BR 6 l.toArray).toList=cellsE 6 tq l:=by
 apply List.ext_getElem?
 intro j;by_cases hj:j<l.length*6
 · have h1:j/6<l.length:=by omega
   have g:=nT (n:=6) (enc:=tq) l (j/6) h1 (j% 6) (by omega);rw [show j/6*6+j% 6=j by omega]at g;have e:(flatK BR 6 l.toArray).toList[j]?=some (BR l[j/6])[j% 6]!:=by
    have:=get_flatK BR 6 l.toArray j (by simpa using hj);rw [Array.getElem?_toList,Array.getElem?_eq_getElem (by simpa using hj), <-getElem!_pos (flatK BR 6 l.toArray) j (by simpa using hj),this];simp [h1]
   rw [e,g,ZV _ _ (by omega)]
 · rw [List.getElem?_eq_none (by simpa using hj),List.getElem?_eq_none (by rw [jw];omega)]
theorem ZW{w:World}{g:Nat}{cur:Array Value}{l:List Rk}(hb:w.heap[g]?=some (.cells cur 145 (0,0)))(ht:cur.toList.take (l.length*6)=cellsE 6 tq l):HoldsK BR 6 w g 0 l.toArray:=by
 intro j hj;have hj':j<l.length*6:=(by simpa using hj);refine⟨?_,by simp [World.frozen?,hb]⟩;have h1:(cur.toList.take (l.length*6))[j]?=(flatK BR 6 l.toArray).toList[j]?:=(by rw [ht,TM]);rw [List.getElem?_take_of_lt hj']at h1;simp only [World.cell?,hb,Nat.zero_add];simp only [Option.isSome_none,Bool.false_eq_true,if_false];rw [<-Array.getElem?_toList,h1,Array.getElem?_toList,Array.getElem?_eq_getElem hj, <-getElem!_pos (flatK BR 6 l.toArray) j hj]
 rfl
theorem heap_put{w:World}{g n:Nat}{os:Array Obj}{cur:Array Value}{e:TypeId}{fr:Nat × Nat}(F:Array Value)(hb:w.heap[g]?=some (.cells cur e fr)):
  (grow (putRow id (Sort.ahead w n) g 0 F) os).heap[g]?=some (.cells (putCells id 0 F cur) e fr):=by
 have hg:g<w.heap.size:=(Array.getElem?_eq_some_iff.1 hb).1;rw [heap_grow_old _ _ (by simpa using hg)];simp [putRow,mapBlock,Sort.ahead,Array.getElem?_modify,hb,onCells]
theorem ZX(cur F:Array Value)(h:F.size<=cur.size):(putCells id 0 F cur).toList.take F.size=F.toList:=by
 apply List.ext_getElem?
 intro j;by_cases hj:j<F.size
 · rw [List.getElem?_take_of_lt hj,Array.getElem?_toList]
   simp [putCells,hj,show j<cur.size by omega]
 · rw [List.getElem?_take_eq_none (by omega),List.getElem?_eq_none (by simp;omega)]
theorem VW{w:World}{g n B:Nat}{os:Array Obj}(F:Array Value)(hB:B<=g)(hBw:B<=w.heap.size):Below B w (grow (putRow id (Sort.ahead w n) g 0 F) os):=by
 refine⟨rfl,rfl,rfl,by simp,fun k hk=> ?_⟩;rw [heap_grow_old _ _ (by simp;omega)];have:g≠k:=(by omega);simp [putRow,mapBlock,Sort.ahead,Array.getElem?_modify,this]
theorem VX{w:World}{g n k:Nat}{os:Array Obj}(F:Array Value)(hk:k<w.heap.size)(hne:k≠g):(grow (putRow id (Sort.ahead w n) g 0 F) os).heap[k]?=w.heap[k]?:=by
 rw [heap_grow_old _ _ (by simpa using hk)];simp [putRow,mapBlock,Sort.ahead,Array.getElem?_modify,show g≠k from fun e=>hne e.symm]
theorem ER(x y:Rk):ltOf ltB x y=decide (x.m.fZ<y.m.fZ∨(x.m.fZ=y.m.fZ/\ x.r<y.r)):=by
 unfold ltOf ltB orN KQ
 apply decide_eq_decide.2
 repeat' split
 all_goals omega
theorem al2:SWO (ltOf ltB) where
 irrefl x:=by rw [ER];simp
 trans x y z h1 h2:=by rw [ER]at*;simp only [decide_eq_true_eq]at*;omega
 ntrans x y z h1 h2:=by rw [ER]at*;simp only [decide_eq_false_iff_not]at*;omega
def yY(l:List Rk):Prop:=l.Pairwise fun x y=>x.m.fZ<=y.m.fZ
theorem VY{d d':Array Rk}(h:iF (ltOf ltB) d d' 0 d.size):d'.toList.Perm d.toList/\ yY d'.toList:=by
 obtain⟨⟨h1,_,h3⟩,hs⟩:=h;refine⟨?_, ?_⟩
 · have e1:(d'.extract 0 d.size).toList=d'.toList:=by rw [<-h1];simp
   have e2:(d.extract 0 d.size).toList=d.toList:=by simp
   rwa [e1,e2]at h3
 · unfold yY
   rw [List.pairwise_iff_getElem];intro i j hi hj hij;have:=hs i j (aB _) hij (by rw [<-h1];simpa using hj);rw [ER,getElem!_pos d' i (by simpa using hi),getElem!_pos d' j (by simpa using hj)]at this;simp only [decide_eq_false_iff_not]at this;simp only [Array.getElem_toList];omega
theorem Qh(l:List Rk)(base:Nat)(v:Value)(hlen:l.length<=1000000)(w:World)(hbw:base<=w.heap.size)(hv:Au w base v l):
   Calls Tryz.prog 136 #[v,.func (.func 137) #[] #[]] w fun e w'=>e= .returned (.tuple #[])/\ ∃r:List Rk,r.Perm l/\ yY r/\ Au w' base v r/\ Below base w w'/\ ∀k,k<w.heap.size->some k≠v.ownBlock->w'.heap[k]?=w.heap[k]?:=by
 rcases hv.2 with⟨rfl,h0⟩|⟨g,cap,cur,rfl,hbase,hh,hle,hcap,hsz,ht⟩
 · obtain rfl:l=[]:=List.eq_nil_of_length_eq_zero h0
   refine(Et 0 (.func (.func 137) #[] #[]) w).mono ?_;rintro e w' ⟨rfl,rfl⟩;exact⟨rfl,[],List.Perm.refl _,List.Pairwise.nil,hv,aC _ _,fun _ _ _=>rfl⟩
 · have eg:∀args w,(callFunc 137 args).run Tryz.prog w= .ok (.enter 137 args) w:=enters_of Tryz.func137 (by kernel_rfl) rfl
   have R:RowK BR 6 w g 0 l.toArray:=⟨fun _=>rfl,fun x v hv=>by simp at hv;rcases hv with rfl|rfl|rfl|rfl|rfl|rfl<;>rfl,ZW hh ht,(Array.getElem?_eq_some_iff.1 hh).1⟩;have hcon:=KP 6 Tryz.sizeOf145 BR ltB al2 137 #[] g 0 cap l.toArray w eg (fun _ _ _ _ x y=>Rl x y _) R (by simp;omega);refine Calls.mono (P:=Tryz.prog) hcon ?_;rintro e w' ⟨rfl,d',hm,n,os,rfl⟩;obtain⟨hp,hs⟩:=VY hm;have hl:d'.toList.length=l.length:=(by have:=hm.size;simpa using this);refine⟨rfl,d'.toList,by simpa using hp,hs, ?_,VW _ hbase hbw,fun k hk hne=>VX _ hk fun e=>hne (by rw [e];rfl)⟩;refine⟨by rw [jw],.inr ⟨g,cap,_,by rw [hl],hbase,heap_put _ hh,by omega,hcap,by simp [putCells,hsz], ?_⟩⟩;have hF:(flatK BR 6 d').size=d'.toList.length*6:=(by simp);rw [<-hF,ZX _ _ (by rw [hF,hsz];omega)];have:=TM d'.toList
   simpa using this
open Go.RowKit
attribute [local go_sem ↓ high] jo zC
theorem ab1(x:Sp)(hx:fit x)(w:World):Calls Tryz.prog 106 #[.agg (vec 2 (bQ x))] w (jc (good x) w):=l7 x.1 x.2 hx w
theorem Ym(x y:Sp)(hx:fit x)(hy:fit y)(w:World):Calls Tryz.prog 83 #[.agg (vec 2 (bQ x)),.agg (vec 2 (bQ y))] w (jc (overlap x y) w):=uH x.1 x.2 y.1 y.2 hx hy w
theorem aeT(b p s:Nat)(q k:Int)(w:World):Calls Tryz.prog 135 #[.agg (vec 5 (kK ⟨(b:Int),(p:Int),(s:Int),q,k⟩))] w fun e w'=>e= .returned (.agg (vec 2 (bQ (b,s))))/\ Below w.heap.size w w':=by
 obtain⟨g,hg⟩:=aqx (w.heap.size);obtain⟨h,hh⟩:=aqx (w.heap.size+1);obtain⟨m,hm⟩:∃m:Mp,m=⟨(b:Int),(p:Int),(s:Int),q,k⟩:=⟨_,rfl⟩;obtain⟨V,hV⟩:=aqx ((w.alloc (.cells (vec 5 (kK m)) 87)).alloc (.cells (vec 2 (bQ (0,0))) 24));have k1:aU V g 87 5 (kK m):=(by rw [hV,hg];exact(aU.new w _ _ _).alloc _);have k2:aU V h 24 2 (bQ (0,0)):=(by rw [hV,hh];exact aU.newAt _ _ _ _ (by simp));have hB:Below w.heap.size w V:=(by rw [hV];exact((aC _ _).alloc (aj _) _).alloc (by simp) _);have x0:V.cell? ⟨g,0,none⟩=some (.int .u64 (b:Int)):=(by have:=k1.cell (i:=0) (by decide);rw [hm]at this;exact this);have x2:V.cell? ⟨g,2,none⟩=some (.int .u64 (s:Int)):=(by have:=k1.cell (i:=2) (by decide);rw [hm]at this;exact this);have HV:=ah hV;have HG:=ah (ak hg hh);have HB:=ah hB;have HK:=ah k2;have HH:Hid (w.heap.size<=h):=ah (by omega);rw [<-hm];clear hV hg hh k1 k2 hB hm;go_enter Tryz.func135,Tryz.ntmps135;go_upto_region 1 with fail
 rw [<-HV.out, <-HG.out.2, <-HG.out.1];clear HV HG;go_wp2_with(first
  |((with_reducible refine aqy (.build _ _) ?_);refine dh rfl 24 _ rfl (vec 2 (bQ (b,s))) (by kernel_rfl) ?_)
  |((with_reducible refine aqy (.store _ _ _) ?_);refine bD rfl 24 _ _ rfl h rfl _ rfl (aS HK.out (bQ (b,s)) bZ (kP _ _)) ?_))
 refine bodyPost_ret (fA rfl _ _ _ rfl (aQ (HK.out.row _) Tryz.underlying24 rfl bZ)) rfl ?_;exact⟨rfl,bg HB.out HH.out _⟩
theorem Fv(m:Mp)(hm:Cj m)(w:World):Calls Tryz.prog 135 #[.agg (vec 5 (kK m))] w fun e w'=>e= .returned (.agg (vec 2 (bQ (lC m))))/\ Below w.heap.size w w':=by
 obtain⟨mi,mp,ms,mq,mk⟩:=m;obtain⟨b,rfl⟩:=au hm.fZ.1;obtain⟨p,rfl⟩:=au hm.pa.1;obtain⟨s,rfl⟩:=au hm.size.1;exact aeT b p s mq mk w
theorem Rn(b p s:Nat)(q k:Int)(w:World):Calls Tryz.prog 94 #[.agg (vec 5 (kK ⟨(b:Int),(p:Int),(s:Int),q,k⟩))] w fun e w'=>e= .returned (.agg (vec 2 (bQ (p,s))))/\ Below w.heap.size w w':=by
 obtain⟨g,hg⟩:=aqx (w.heap.size);obtain⟨h,hh⟩:=aqx (w.heap.size+1);obtain⟨m,hm⟩:∃m:Mp,m=⟨(b:Int),(p:Int),(s:Int),q,k⟩:=⟨_,rfl⟩;obtain⟨V,hV⟩:=aqx ((w.alloc (.cells (vec 5 (kK m)) 87)).alloc (.cells (vec 2 (bQ (0,0))) 24));have k1:aU V g 87 5 (kK m):=(by rw [hV,hg];exact(aU.new w _ _ _).alloc _);have k2:aU V h 24 2 (bQ (0,0)):=(by rw [hV,hh];exact aU.newAt _ _ _ _ (by simp));have hB:Below w.heap.size w V:=(by rw [hV];exact((aC _ _).alloc (aj _) _).alloc (by simp) _);have x0:V.cell? ⟨g,1,none⟩=some (.int .u64 (p:Int)):=(by have:=k1.cell (i:=1) (by decide);rw [hm]at this;exact this);have x2:V.cell? ⟨g,2,none⟩=some (.int .u64 (s:Int)):=(by have:=k1.cell (i:=2) (by decide);rw [hm]at this;exact this);have HV:=ah hV;have HG:=ah (ak hg hh);have HB:=ah hB;have HK:=ah k2;have HH:Hid (w.heap.size<=h):=ah (by omega);rw [<-hm];clear hV hg hh k1 k2 hB hm;go_enter Tryz.func94,Tryz.ntmps94;go_upto_region 1 with fail
 rw [<-HV.out, <-HG.out.2, <-HG.out.1];clear HV HG;go_wp2_with(first
  |((with_reducible refine aqy (.build _ _) ?_);refine dh rfl 24 _ rfl (vec 2 (bQ (p,s))) (by kernel_rfl) ?_)
  |((with_reducible refine aqy (.store _ _ _) ?_);refine bD rfl 24 _ _ rfl h rfl _ rfl (aS HK.out (bQ (p,s)) bZ (kP _ _)) ?_))
 refine bodyPost_ret (fA rfl _ _ _ rfl (aQ (HK.out.row _) Tryz.underlying24 rfl bZ)) rfl ?_;exact⟨rfl,bg HB.out HH.out _⟩
theorem Aw(m:Mp)(hm:Cj m)(w:World):Calls Tryz.prog 94 #[.agg (vec 5 (kK m))] w fun e w'=>e= .returned (.agg (vec 2 (bQ (paS m))))/\ Below w.heap.size w w':=by
 obtain⟨mi,mp,ms,mq,mk⟩:=m;obtain⟨b,rfl⟩:=au hm.fZ.1;obtain⟨p,rfl⟩:=au hm.pa.1;obtain⟨s,rfl⟩:=au hm.size.1;exact Rn b p s mq mk w
open Go.RowKit
section
variable {P : Program} {ops : Array Oper} {Q : Exit -> Act -> World -> Prop} {md : Region.Mode} {S : World -> Prop} {l n : Nat}
theorem Ro{o:Oper}{a:Act}{w:World}{K:Act->World->Prop}(hd:∀c,o.op≠ .defer c)(h:o.wp P a w K Q):o.wpIn (Fence.wide.inRound l) n P a w K Q:=by
 refine⟨fun _ _=>trivial, ?_⟩;show o.uponIn (Fence.wide.inRound l) n P a K Q ((Oper.semAt (some l) a.eval o).run P w)
 rw [Oper.semAt_some l _ _ hd];unfold Oper.wp at h
 generalize (execOp a.eval o).run P w=r at h⊢
 cases r with
 |ok x w'=>
  cases x with
  |enter f args=>exact⟨fun h=>by simp [Fence.wide]at h,callsIn_wide.2 h⟩
  |row rw args=>exact⟨fun h=>by simp [Fence.wide]at h,fun c cs _=>let ⟨v,w',r,s⟩:=h c cs;⟨v,w',r,stepsIn_wide.2 s⟩⟩
  |round l' f tmps assign body=>exact h.elim
  |_=>exact h
 |halt x w'=>cases x<;>exact h
def KR(ops:Array Oper):Bool:=ops.all fun o=>match o.op with| .defer _=>false|_=>true
theorem Rq{i:Nat}{o:Oper}(h:KR ops=true)(hi:ops[i]?=some o):∀c,o.op≠ .defer c:=fun c e=>by
 obtain⟨hlt,hx⟩:=Array.getElem?_eq_some_iff.1 hi;have:=(Array.all_eq_true.1 h) i hlt;rw [hx,e]at this;cases this
theorem yF(hd:KR ops=true)(hq:¬LetsOut Q):∀ (fuel:Nat) (listed:Array Bool) (a:Act) (w:World),wpAny P md ops Q fuel listed a w->wpAnyIn (Fence.wide.inRound l) n P md ops Q fuel listed a w
 |0,_,_,_,h=>h
 |fuel+1,listed,a,w,h=>⟨h.1,fun i hi=>by
  have h2:=h.2 i hi;unfold wpOp at h2;unfold wpOpIn;cases ho:ops[i]? with
  |none=>rw [ho]at h2;exact yF hd hq fuel _ a w h2
  |some o=>
   rw [ho]at h2;simp only at h2⊢;by_cases hw:Region.wanted o (yielded ops a.tmps)=true
   · rw [if_pos hw]at h2⊢
     exact Oper.wpIn_mono (fun a w h=>yF hd hq fuel _ a w h) (Ro (Rq hd ho) (h2.resolve_right fun hh=>hq hh.2))
   · rw [if_neg hw]at h2⊢
     exact⟨fun _ _=>trivial,yF hd hq fuel _ _ w h2⟩⟩
theorem wX{id:Nat}{a:Act}{w:World}(hm:P.follows .mixedOrders=true)(hd:KR ops=true)(hq:¬LetsOut Q)(hS:S w.drew)
  (h:S w.drew->wpAnyH P .any ops Q S ops.size (Array.replicate ops.size false) a w.drew):(Code.region id ops true).wpIn (Fence.wide.inRound l) n P Q a w:=
 wpIn_region_any hm (yF hd hq _ _ _ _ (wpAny_of_held _ _ _ _ (h hS)))
end
section
variable {F : Fence} {n : Nat} {P : Program} {w w' : World} {ops : Array Oper} {rest : List Oper} {o : Oper} {a : Act} {Q : Exit -> Act -> World -> Prop}
theorem JF(ro:Option Nat){o:Oper}{ρ:Operand->Value}(h:∀c,o.op≠ .defer c):Oper.semAt ro ρ o=execOp ρ o:=Oper.semAt_eq ro ρ o h
theorem ni(hgd:o.guard=none)(ty:TypeId)(x y:Operand)(ho:o.op= .store ty x y)(g:Nat)(hx:a.eval x= .pointer (some ⟨g,0,none⟩))(v:Value)(hy:a.eval y=v)
  (hs:(storeVar ty ⟨g,0,none⟩ v).run P w= .ok () w') (h:wpListIn F n P ops Q rest (a.put o.dst undef) w'):wpListIn F n P ops Q (o::rest) a w:=
 wpListIn_plain hgd fun K hK=>by
  refine⟨fun f hf=>by simp [Oper.about,ho]at hf, ?_⟩;rw [JF _ (fun c e=>by rw [ho]at e;cases e)];unfold execOp;simp only [ho,hx,hy,Instr.storeAt,Instr.sureAddr,Sem.run_bind,Sem.run_pure,Result.andThen_ok,hs];exact hK _ _ h
theorem sZ(h:Below w.heap.size w w'):w.grownBy w' none:=⟨h.1,h.2,h.3,h.4,fun k hk _=>h.5 k hk⟩
end
open Go.RowKit
section
variable {F : Fence} {n : Nat} {P : Program} {w w' : World} {ops : Array Oper} {rest : List Oper} {o : Oper} {a : Act} {Q : Exit -> Act -> World -> Prop}
theorem jG(hF:∀f,F.fn f)(hw:Region.wanted o (yielded ops a.tmps)=true)(hd:∀c,o.op≠ .defer c){v:Value}(he:(execOp a.eval o).run P w= .ok (.value v) w')
  (h:wpListIn F n P ops Q rest (a.put o.dst v) w'):wpListIn F n P ops Q (o::rest) a w:=
 wpListIn_step fun K hK=>by
  rw [if_pos hw];refine⟨fun f _=>hF f, ?_⟩;rw [JF _ hd,he];exact hK _ _ h
theorem uG(ty:TypeId)(x y:Operand)(ho:o.op= .index ty x y)(cs:Array Value)(hx:a.eval x= .agg cs)(z:Int)(hy:a.eval y= .int .i64 z)(v:Value)
  (hr:(Instr.index ty (.agg cs) (.int .i64 z)).run P w= .ok v w):(execOp a.eval o).run P w= .ok (.value v) w:=by
 unfold execOp;simp only [ho,hx,hy,Sem.run_bind,hr,Result.andThen_ok,Sem.run_pure]
end
theorem lG:∀f,Fence.wide.fn f:=fun _=>trivial
theorem Ar(l:Nat):∀f,(Fence.wide.inRound l).fn f:=fun _=>trivial
theorem Xb{l l' m n:Nat}{P:Program}{f:FuncId}{tmps:Array Value}{assign body:Code}{w:World}{R:Ending->World->Prop}(h:RoundIn Fence.wide m P l f tmps assign body w R):RoundIn (Fence.wide.inRound l') n P l f tmps assign body w R:=
 ⟨h.1,fun c cs _=>h.2 c cs (room_wide _)⟩
open Go.RowKit
section
variable {P : Program} {α : Type}
def JK(n:Nat)(P:Program)(g:Nat)(lb:Array Value)(encs:α->Array Value)(Kp:Nat->World->World->Prop)(S Sp:List α->Prop)(N:Nat)(w:World):Prop:=
 ∀ (l:Nat) (J Jx:List α->World->Prop) (W:World),Below w.heap.size w W->OwnFrom W.heap.size J->OwnFrom W.heap.size Jx->
  (∀pre x W1,J pre W1->pre.length<N->YieldAt Fence.wide (n-1) P l (encs x) W1 fun e W'=>
   (e= .returned (.bool true)/\ J (pre++ [x]) W'/\ Kp W.heap.size W1 W')∨(e= .returned (.bool false)/\ Jx (pre++ [x]) W'/\ KeepsFrom W.heap.size W1 W'))->
  J [] W->CallsIn Fence.wide n P g (#[.func (.yield l) #[] #[]]++lb) W fun e W'=>(∃v,e= .returned v)/\ ((∃xs,S xs/\ J xs W')∨∃pre,Sp pre/\ Jx pre W')
theorem zl{B:Nat}{W:World}{l:Nat}{o':Obj}(hl:l<B):KeepsFrom B W (W.putObj l o'):=
 ⟨(grownBy_putObj' W l o').size,fun k _ hk ho _=>(World.putObj_heap_other (by omega)).trans ho⟩
theorem oz{B B':Nat}{W W':World}(h:KeepsFrom B W W')(hB:B<=B'):KeepsFrom B' W W':=⟨h.size,fun k o hk ho hc=>h.same k o (aA hB hk) ho hc⟩
theorem Ul{g:Operand}{ps:Array Tmp}{assign body:Code}{Q:Exit->Act->World->Prop}{a:Act}{w:World}{n:Nat}(h1:1<=n)
   {gf:Nat} {lb:Array Value} (hg:a.eval g= .func (.func gf) #[] lb) (eg:∀args w,(callFunc gf args).run P w= .ok (.enter gf args) w)
   {encs:α->Array Value} {Kp:Nat->World->World->Prop} {S Sp:List α->Prop} {N:Nat} {w0:World} (hseq:JK (n-1) P gf lb encs Kp S Sp N w0)
   (hKt:∀ {A B C:World},Kp (w.heap.size+2) A B->Kp (w.heap.size+2) B C->Kp (w.heap.size+2) A C)
   (hKb:∀ (W:World) (l:Nat) (o o':Obj),w.heap.size<=l->l<w.heap.size+2->W.heap[l]?=some o->o.isCells=false->Kp (w.heap.size+2) W (W.putObj l o'))
   (hb0:Below w0.heap.size w0 w) (hps:∀x,(encs x).size=ps.size)
   (I:List α->World->Prop) (Ix:Code->List α->World->Prop) (hI:OwnFrom w.heap.size I) (hIx:∀c,OwnFrom w.heap.size (Ix c)) (h0:I [] w) (Ax:α->Act->World->Prop) (hAx:∀x a',OwnFrom w.heap.size (fun(_:Unit) W=>Ax x a' W))
   (hassign:∀ (l:Nat) (pre:List α) (x:α) (W:World) (K:Act->World->Prop),I pre W->(∀a' W',KeepsFrom w.heap.size W W'->Kp (w.heap.size+2) W W'->I pre W'->Ax x a' W'->K a' W')->
     assign.wpIn (Fence.wide.inRound l) (n-1-1) P (Exit.then K (fun _ _ _=>False)) { tmps:=(ps.zip (encs x)).foldl (fun t (p,v)=>t.setIfInBounds p v) a.tmps,defers:=[] } W)
   (hbody:∀ (l:Nat) (pre:List α) (x:α) (a':Act) (W:World),w.heap.size<=l->I pre W->Ax x a' W->pre.length<N->body.wpIn (Fence.wide.inRound l) (n-1-1) P (ownPostG w.heap.size (Kp (w.heap.size+2)) I Ix (pre++ [x]) W) a' W)
   (hdone:∀ (D:Nat) (xs:List α) (W:World),w.heap.size<=D->S xs->I xs W->W.heap[D]?=some (.deferred (some []))->Q .normal { a with defers:= { target:= .collected D,args:= #[] }::a.defers } W)
   (hstop:∀ (D:Nat) (c:Code) (pre:List α) (W:World),w.heap.size<=D->Sp pre->Ix c pre W->W.heap[D]?=some (.deferred (some []))->c.wpIn Fence.wide n P Q { a with defers:= { target:= .collected D,args:= #[] }::a.defers } W):
   (Code.rangeFunc g ps assign body).wpIn Fence.wide n P Q a w:=by
 refine wpIn_rangeFunc fun fn hfn=> ?_;obtain⟨R,hR⟩:∃R:LoopState->Option Code->Loop,R=fun st pe=> { state:=st,pending:=pe,fn,tmps:=a.tmps,params:=ps,assign,body,defers:=w.heap.size }:=⟨_,rfl⟩;have ajc:∀st pe, { R st pe with state:= .busy }=R .busy pe:=(fun _ _=>by rw [hR]);have ps':∀st pe,(R st pe).params=ps:=(fun _ _=>by rw [hR]);obtain⟨W1,hW1⟩:=aqx ((w.alloc (.deferred (some []))).alloc (.loop (R .ready none)));have hs1:W1.heap.size=w.heap.size+2:=(by rw [hW1];simp);have hL1:W1.heap[w.heap.size+1]?=some (.loop (R .ready none)):=by
   have:=World.alloc_heap_new (w.alloc (.deferred (some []))) (.loop (R .ready none));rw [World.size_alloc]at this;rw [hW1];exact this
 have hK1:W1.heap[w.heap.size]?=some (.deferred (some [])):=by
   rw [hW1];exact(Below.heap_alloc _ _ _ (by simp)).trans (World.alloc_heap_new w _)
 have hI1:I [] W1:=(by rw [hW1];exact hI.alloc _ (hI.alloc _ h0));have hb1:Below w0.heap.size w0 W1:=hb0.trans (by rw [hW1];exact(((aC _ w).alloc (aj _) _).alloc (by simp) _).mono hb0.size);refine⟨w.heap.size+1,[{ target:= .collected w.heap.size,args:= #[] }],W1, { target:= .fn (.func gf) lb,args:= #[.func (.yield (w.heap.size+1)) #[] #[]] },W1,gf, #[.func (.yield (w.heap.size+1)) #[] #[]]++lb,W1, ?_, ?_, ?_, ?_,fun _=>h1, ?_⟩
 · rw [hW1,hR];exact run_enterLoop_outer _ _ _ _ _
 · simp only [resolve,hg]
   simp [go_sem]
 · intro f' _;exact trivial
 · simp [invoke,go_sem,eg]
 have hput:∀ {A B:World} {row:Option Nat},(∀r,row=some r->W1.heap.size<=r/\ ∃o:Obj,A.heap[r]?=some o/\ o.isCells=false)->A.grownBy B row->∀ {k:Nat} {o:Obj},k<W1.heap.size->A.heap[k]?=some o->B.heap[k]?=some o:=
   fun hr hg' k _ hlt hk=>(hg'.block k (Array.getElem?_eq_some_iff.1 hk).1 (fun e=>by have:=(hr k e.symm).1;omega)).trans hk
 have hlow:∀ {A:World} {row:Option Nat},(∀r,row=some r->W1.heap.size<=r/\ ∃o:Obj,A.heap[r]?=some o/\ o.isCells=false)->(∀r,row=some r->w.heap.size<=r/\ ∃o:Obj,A.heap[r]?=some o/\ o.isCells=false):=
   fun hr r e=>⟨by have:=(hr r e).1;omega,(hr r e).2⟩
 refine(hseq (w.heap.size+1)
   (fun pre W=>I pre W/\ W.heap[w.heap.size+1]?=some (.loop (R .ready none))/\ W.heap[w.heap.size]?=some (.deferred (some [])))
   (fun pre W=>∃c,Ix c pre W/\ W.heap[w.heap.size+1]?=some (.loop (R .done (some c)))/\ W.heap[w.heap.size]?=some (.deferred (some []))) W1 hb1
   (fun s A B row hs hg' hr=>⟨hI s A B row hs.1 hg' (hlow hr),hput hr hg' (by omega) hs.2.1,hput hr hg' (by omega) hs.2.2⟩)
   (fun s A B row hs hg' hr=>by
     obtain⟨c,hc,hl,hk⟩:=hs;exact⟨c,hIx c s A B row hc hg' (hlow hr),hput hr hg' (by omega) hl,hput hr hg' (by omega) hk⟩)
   ?_ ⟨hI1,hL1,hK1⟩).mono ?_
 · rintro pre x W ⟨hi,hl,hk⟩ hlen
   rw [hs1];have hy:=run_yield (P:=P) (args:=encs x) hl (by rw [ps'];exact hps x);rw [hR]at hy;refine⟨fn,_,assign,body,hy,roundIn_of_wpIn hfn (hassign _ pre x W _ hi ?_)⟩;clear hy;intro a' Wa hkfa hkpa hia hax;have hla:=hkfa.same _ _ (by omega) hl rfl;have hka:=hkfa.same _ _ (aj _) hk rfl;have hlt:w.heap.size+1<Wa.heap.size:=(Array.getElem?_eq_some_iff.1 hla).1;obtain⟨W2,hW2⟩:=aqx (Wa.putObj (w.heap.size+1) (.loop (R .busy none)));have ajd:=run_beginRound (P:=P) hla (by rw [hR]);rw [ajc, <-hW2]at ajd;have hl2:W2.heap[w.heap.size+1]?=some (.loop (R .busy none)):=(by rw [hW2];exact World.putObj_heap_same hlt);have hk2:W2.heap[w.heap.size]?=some (.deferred (some [])):=(by rw [hW2];exact(World.putObj_heap_other (by omega)).trans hka);have hi2:I pre W2:=(by rw [hW2];exact hI.putObj _ hia (by omega) hla rfl);have al3:Ax x a' W2:=(by rw [hW2];exact(hAx x a').putObj (s:=()) _ hax (by omega) hla rfl);have hw2:Kp (w.heap.size+2) W W2:=(by rw [hW2];exact hKt hkpa (hKb _ _ _ _ (by omega) (by omega) hla rfl));have hf2:KeepsFrom (w.heap.size+2) W W2:=(by rw [hW2];exact(oz hkfa (by omega)).trans (zl (by omega)));refine⟨_,ajd,wpIn_mono (hbody _ pre x a' _ (by omega) hi2 al3 hlen) ?_⟩;have fin:∀ (jump:Option Code) (W3:World),KeepsFrom w.heap.size W2 W3->
      (Instr.endRound (w.heap.size+1) jump).run P W3= .ok (.bool jump.isNone) (W3.putObj (w.heap.size+1) (.loop (R (if jump.isNone then .ready else .done) jump)))/\
      W3.heap[w.heap.size+1]?=some (.loop (R .busy none))/\
      (W3.putObj (w.heap.size+1) (.loop (R (if jump.isNone then .ready else .done) jump))).heap[w.heap.size+1]?=some (.loop (R (if jump.isNone then .ready else .done) jump))/\
      (W3.putObj (w.heap.size+1) (.loop (R (if jump.isNone then .ready else .done) jump))).heap[w.heap.size]?=some (.deferred (some []))/\
      KeepsFrom (w.heap.size+2) W (W3.putObj (w.heap.size+1) (.loop (R (if jump.isNone then .ready else .done) jump))):=fun jump W3 hk3=>by
     have hl3:=hk3.same _ _ (by omega) hl2 rfl;have hend:=run_endRound (P:=P) jump hl3;refine⟨?_,hl3,World.putObj_heap_same (Array.getElem?_eq_some_iff.1 hl3).1,(World.putObj_heap_other (by omega)).trans (hk3.same _ _ (aj _) hk2 rfl),(hf2.trans (oz hk3 (by omega))).trans (zl (by omega))⟩;rw [hR]at hend⊢;exact hend
   have out:∀ (c:Code) (W3:World),KeepsFrom w.heap.size W2 W3->Ix c (pre++ [x]) W3->∃v W4,(Instr.endRound (w.heap.size+1) (some c)).run P W3= .ok v W4/\
      ((Ending.returned v= .returned (.bool true)/\ (I (pre++ [x]) W4/\ W4.heap[w.heap.size+1]?=some (.loop (R .ready none))/\ W4.heap[w.heap.size]?=some (.deferred (some [])))/\ Kp (w.heap.size+2) W W4)∨
       (Ending.returned v= .returned (.bool false)/\ (∃c,Ix c (pre++ [x]) W4/\ W4.heap[w.heap.size+1]?=some (.loop (R .done (some c)))/\ W4.heap[w.heap.size]?=some (.deferred (some [])))/\ KeepsFrom (w.heap.size+2) W W4)):=fun c W3 hk3 hi3=>by
     obtain⟨hr,hl3,hl4,hk4,Xc⟩:=fin (some c) W3 hk3;exact⟨_,_,hr,.inr ⟨rfl,⟨c,(hIx _).putObj _ hi3 (by omega) hl3 rfl,hl4,hk4⟩,Xc⟩⟩
   rintro e a3 W3 hp;cases e with
   |normal=>
     obtain⟨hk3,hkp3,hi3⟩:=hp;obtain⟨hr,hl3,hl4,hk4,-⟩:=fin none W3 hk3;exact⟨_,_,hr,.inl ⟨rfl,⟨hI.putObj _ hi3 (by omega) hl3 rfl,hl4,hk4⟩,hKt (hKt hw2 hkp3) (hKb _ _ _ _ (by omega) (by omega) hl3 rfl)⟩⟩
   |ret=>exact out .ret W3 hp.1 hp.2
   |exit id=>exact out (.exit id) W3 hp.1 hp.2
   |goto t=>exact out (.goto t) W3 hp.1 hp.2
   |panic ch=>exact hp.elim
   |outgrown=>exact hp.elim
 · rintro e W2 ⟨⟨v,rfl⟩,(⟨xs,hS,hi,hl,hk⟩|⟨pre,hSp,c,hi,hl,hk⟩)⟩
   · have hend:=run_endLoop (P:=P) hl (by rw [hR];simp)
     have hpe:(R .ready none).pending=none:=(by rw [hR]);rw [hpe]at hend;exact⟨none,_,hend,hdone _ xs _ (aj _) hS (hI.putObj _ hi (by omega) hl rfl) ((World.putObj_heap_other (by omega)).trans hk)⟩
   · have hend:=run_endLoop (P:=P) hl (by rw [hR];simp)
     have hpe:(R .done (some c)).pending=some c:=(by rw [hR]);rw [hpe]at hend;exact⟨some c,_,hend,hstop _ c pre _ (aj _) hSp ((hIx c).putObj _ hi (by omega) hl rfl) ((World.putObj_heap_other (by omega)).trans hk)⟩
end
def Ah(t:TypeId):Prop:=t=145∨t=151∨t=24∨t=40
instance (t:TypeId):Decidable (Ah t):=by unfold Ah;infer_instance
structure KN(n0 B:Nat)(W W':World):Prop where
 size:W.heap.size<=W'.heap.size
 low:∀k,k<n0->W'.heap[k]?=W.heap[k]?
 cells:∀ (k:Nat) (cs:Array Value) (t:TypeId) (fr:Nat × Nat),W.heap[k]?=some (.cells cs t fr)->¬Ah t->W'.heap[k]?=some (.cells cs t fr)
 others:∀ (k:Nat) (o:Obj),B<=k->W.heap[k]?=some o->o.isCells=false->W'.heap[k]?=some o
theorem KN.refl(n0 B:Nat)(W:World):KN n0 B W W:=⟨aj _,fun _ _=>rfl,fun _ _ _ _ h _=>h,fun _ _ _ h _=>h⟩
theorem KN.trans{n0 B:Nat}{X Y Z:World}(h:KN n0 B X Y)(k:KN n0 B Y Z):KN n0 B X Z:=
 ⟨aA h.size k.size,fun i hi=>(k.low i hi).trans (h.low i hi),fun i cs t fr hi ht=>k.cells i cs t fr (h.cells i cs t fr hi ht) ht,fun i o hB hi ho=>k.others i o hB (h.others i o hB hi ho) ho⟩
theorem KN.up{n0 B B':Nat}{X Y:World}(h:KN n0 B X Y)(hB:B<=B'):KN n0 B' X Y:=⟨h.size,h.low,h.cells,fun k o hk=>h.others k o (aA hB hk)⟩
theorem KN.put{n0 B:Nat}{W:World}{l:Nat}{o o':Obj}(h0:n0<=l)(hB:l<B)(hl:W.heap[l]?=some o)(ho:o.isCells=false):KN n0 B W (W.putObj l o'):=
 ⟨(grownBy_putObj' W l o').size,fun k hk=>World.putObj_heap_other (by omega),fun k cs t fr hk _=>(World.putObj_heap_other (fun e=>by subst e;rw [hl]at hk;cases hk;cases ho)).trans hk,fun k _ hk h _=>(World.putObj_heap_other (by omega)).trans h⟩
theorem KN.of_below{n0 B:Nat}{W W':World}(h:Below W.heap.size W W')(h0:n0<=W.heap.size):KN n0 B W W':=
 ⟨h.size,fun k hk=>h.block k (by omega),fun k cs t fr hk _=>(h.block k (Array.getElem?_eq_some_iff.1 hk).1).trans hk,fun k o _ hk _=>(h.block k (Array.getElem?_eq_some_iff.1 hk).1).trans hk⟩
theorem KN.from{n0 B:Nat}{W W':World}(h:KN n0 B W W'):KeepsFrom B W W':=⟨h.size,fun k o hB hk ho=>h.others k o hB hk ho⟩
end Go.Proofs.YtkaipknkjocfiaaGreat
