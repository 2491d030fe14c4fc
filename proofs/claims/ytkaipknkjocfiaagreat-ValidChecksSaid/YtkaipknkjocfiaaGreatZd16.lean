import Derived.Shelf.SlGeneric
import Derived.Ground.SlsfProg
import Derived.Ground.SlgnProg
import Derived.Ground.SlsoProg
import Derived.Ground.SlgfProg
import Derived.Shelf.SlLaysF0
import Derived.Shelf.SlLaysE
import Derived.Shelf.SlLaysO
import Derived.Shelf.SlLaysH0
import Derived.RangeFuncNested
import Derived.RangeFuncBound
import Derived.RangeFuncCalls
import Derived.RangeFuncLeaves
import Derived.Shelf.Abstract
import Derived.Shelf.RegionOpen
import Derived.WalkKit
import Derived.OwnWalkIn
import Derived.TacticsInMore
import Derived.LoopNIn
import Derived.LoopIn
import Derived.Maps.AppendAt
import Derived.RangeFuncBox
import Derived.Shelf.SlSortCmp.WholeK
import Derived.Shelf.SlSortCmp.NoneTotal
import Derived.Test.YtkaipknkjocfiaaGreatZd15
import Derived.Test.YtkaipknkjocfiaaGreatZd12
import Derived.Test.YtkaipknkjocfiaaGreatProg
set_option maxRecDepth 100000
set_option maxHeartbeats 64000000
namespace Go.Proofs.YtkaipknkjocfiaaGreat
open Go.RowKit
theorem CY{α:Type}{e:α->Nat}:∀ {l:List α},dK e l=0->∀x∈l,e x=0
 | [],_,x,hx=>by cases hx
 |y::ys,h,x,hx=>by
  have h:(if e y=0 then dK e ys else e y)=0:=h;by_cases h0:e y=0
  · rw [if_pos h0]at h
    rcases List.mem_cons.1 hx with rfl|hx
    · exact h0
    · exact CY h x hx
  · rw [if_neg h0]at h;exact absurd h h0
theorem Sl{α:Type}(f:α->By)(m:Nat):∀l:List α,(∀x∈l,(f x).length<=m)->(l.flatMap f).length<=l.length*m
 | [],_=>by simp
 |x::xs,h=>by
  have h1:=h x (by simp);have h2:=(Sl f m xs fun y hy=>h y (by simp [hy]));rw [List.flatMap_cons,List.length_append,List.length_cons,Nat.succ_mul];omega
theorem CZ(x:Ch):(kD x).length=40:=by simp [kD,CS,kU]
theorem FP{g:Gs}(hb:g.key.length=68)(he:jX g=0):(nZ g).length<=2000:=by
 obtain⟨hnm,-,hct,-,-⟩:=Sj he;obtain⟨q0,q1,q2,q3⟩:=FN hct;have hnl:g.name.length<=16:=by
  unfold jD at hnm;simp only [Bool.and_eq_true,decide_eq_true_eq]at hnm;exact hnm.2
 unfold nZ XG XH XI qQ;simp only [List.length_append,kU,List.length_replicate,hb,kC jH 28 CU,kC jL 24 CV,kC jM 8 CX,kC pX 4 I9];omega
theorem Sm{x:Cf}(h:vC x=0):(1<=x.gs.length/\ x.gs.length<=16)/\ x.dH.length<=32/\ dK jX x.gs=0/\ x.dH.any kM=false:=by
 unfold vC at h;by_cases h1:(inB (x.gs.length:Int) 1 16&&inB (x.dH.length:Int) 0 32)=false
 · rw [if_pos h1]at h;cases h
 rw [if_neg h1]at h;have h1:(inB (x.gs.length:Int) 1 16&&inB (x.dH.length:Int) 0 32)=true:=(by simpa using h1);unfold inB at h1;simp only [Bool.and_eq_true,decide_eq_true_eq]at h1;by_cases h2:dK jX x.gs=0
 · rw [if_pos h2]at h
   refine⟨by omega,by omega,h2, ?_⟩;unfold jg at h;cases h3:x.dH.any kM
   · rfl
   · rw [h3]at h;cases h
 · rw [if_neg h2]at h;exact absurd h h2
theorem XK(x:Cf)(a c:Value)(w:World)(hx:Ai w w.heap.size x a c)(hb:Aj x)(he:vC x=0):Calls Tryz.prog 72 #[ji x a c] w (Bytes w (tY x)):=by
 obtain⟨q0,q1,q2,q3⟩:=Sm he;obtain⟨V,hV⟩:=aqx (w.alloc (.cells (vec 3 (eX x.ver a c)) 31));have k1:aU V w.heap.size 31 3 (eX x.ver a c):=(by rw [hV];exact aU.new w _ _ _);have hB:Below w.heap.size w V:=(by rw [hV];exact(aC _ _).alloc (aj _) _);have HK:=ah hB;obtain⟨x0,x1,x2⟩:=vF k1;obtain⟨⟨A,d,ys,rfl,hm,hr,hl⟩,⟨A2,d2,rfl,hr2,hl2⟩⟩:=hx.up hB;obtain⟨vn,hvn⟩:=au hb.ver.1;have hlen:ys.length=x.gs.length:=(by rw [<-hm,List.length_map]);have hyb:∀y∈ys,GsB y.g/\ jX y.g=0:=fun y hy=>by
  have hmem:y.g∈x.gs:=(by rw [<-hm];exact List.mem_map_of_mem hy);exact⟨hb.gs _ hmem,CY q2 _ hmem⟩
 have hfl:ys.flatMap (fun y=>nZ y.g)=x.gs.flatMap nZ:=(by rw [<-hm,List.flatMap_map]);have hgl:(x.gs.flatMap nZ).length<=32000:=by
  have:=(Sl nZ 2000 x.gs fun g hg=>FP (hb.gs g hg).key (CY q2 g hg));omega
 have HW0:Hid (∀Y,VS V Y->Calls Tryz.prog 115 #[.slice A x.gs.length d,.func (.func 116) #[] #[]] Y (Bytes Y (x.gs.flatMap nZ))):=ah (fun Y hY=>by
  have hg:=hr.up hY;have:=acS ys A d Y (by omega) hg.row (fun y hy=>(hg.all y hy).one) (by rw [hfl];omega) (fun j h Z hZ=>JX _ Z (((hg.all _ (ay h)).below hZ).wide hZ.size) (hyb _ (ay h)).1 (hyb _ (ay h)).2);rw [hfl,hlen]at this;exact this)
 have HW1:Hid (∀Y,VS V Y->Calls Tryz.prog 117 #[.slice A2 x.dH.length d2,.func (.func 118) #[] #[]] Y (Bytes Y (x.dH.flatMap kD))):=ah (fun Y hY=>acR x.dH A2 d2 Y (by omega) (hr2.up hY) (by rw [kC kD 40 CZ];omega) (fun j h Z _=>UA _ (hb.dH _ (ay h)) (by have:=List.any_eq_false.1 q3 _ (ay h);simpa using this) Z));have hcl:(x.dH.flatMap kD).length<=32000:=(by rw [kC kD 40 CZ];omega);obtain⟨LZ,hLZ⟩:=aqx (tY x);rw [<-hLZ];unfold ji;obtain⟨N,hN⟩:=aqx (x.gs.length);obtain⟨M,hM⟩:=aqx (x.dH.length);have ads:LZ=[1111705159].flatMap (be 4)++([1,N,M,0].flatMap (be 2)++([vn].flatMap (be 4)++(x.gs.flatMap nZ++x.dH.flatMap kD))):=by
  rw [hLZ,hN,hM];simp [tY,hvn]
 have HN:=ah (show(∀n∈ [1111705159],n<4294967296)/\ (∀n∈ [vn],n<4294967296)/\ (∀n∈ [1,N,M,0],n<65536) by have:=hb.ver.2;simp;omega);rw [<-hN]at x1 hV HW0⊢;rw [<-hM]at x2 hV HW1⊢;rw [hvn]at x0;have RZ:=ah x0;have Uw:=ah x1;have Ig:=ah x2;obtain⟨L0,u0⟩:=aqx (x.gs.flatMap nZ);obtain⟨L1,u1⟩:=aqx (x.dH.flatMap kD);rw [<-u0, <-u1]at ads;rw [<-u0]at HW0 hgl;rw [<-u1]at HW1 hcl;have HLL:=ah (ak hgl hcl);have bT:Hid (∀ (Y Y':World) (v:Value) (a1 a9 a13 a16 a19:Option Addr) (c1 c9 c13 c16 c19:Nat),Y'.ownsRow Y.heap.size 5 1 v (dQ [(a1,c1,[]++ [1111705159].flatMap (be 4)),(a9,c9,[1,N,M,0].flatMap (be 2)),(a13,c13,[]++ [vn].flatMap (be 4)),(a16,c16,L0),(a19,c19,L1)]).length (jF (dQ [(a1,c1,[]++ [1111705159].flatMap (be 4)),(a9,c9,[1,N,M,0].flatMap (be 2)),(a13,c13,[]++ [vn].flatMap (be 4)),(a16,c16,L0),(a19,c19,L1)]))->VS V Y->Below Y.heap.size Y Y'->∃u,Ending.returned v= .returned u/\ Y'.ownsRow w.heap.size 5 1 u LZ.length (jF LZ)/\ Below w.heap.size w Y'):=ah (fun Y Y' v a1 a9 a13 a16 a19 c1 c9 c13 c16 c19 hv1 hv2 hv3=>by
  have hb:Below w.heap.size w Y:=HK.out.trans ((show Below V.heap.size V Y from hv2).mono HK.out.size);refine⟨v,rfl, ?_,hb.trans (hv3.mono hb.size)⟩;rw [show LZ=dQ [(a1,c1,[]++ [1111705159].flatMap (be 4)),(a9,c9,[1,N,M,0].flatMap (be 2)),(a13,c13,[]++ [vn].flatMap (be 4)),(a16,c16,L0),(a19,c19,L1)] by rw [ads];simp [dQ]];exact iK hv1 hb.size)
 have HW:=ah hV;clear hV k1 hB hx hb he q0 q1 q2 q3 x0 x1 x2 hm hr hl hr2 hl2 hvn hlen hyb hfl hgl hcl hLZ ads hN hM u0 u1;unfold Bytes;go_enter Tryz.func72,Tryz.ntmps72;go_upto_region 1 with fail
 rw [<-HW.out];clear HW;refine wp_region_held_drew (S:=fun Y=>VS V Y) (by kernel_rfl) (VS.begin V) (fun hS=> ?_);revert hS
 apply Si
 case h=>
  intro tail hS;refine tA 2 ?_;refine tP 3 (hy:=by(intro Z hZ;have k0:=((show Below V.heap.size V Z from hZ).cell (aG V _ Uw.out)).trans Uw.out;go_simp;(try with_reducible rfl))) ?_;refine tA 4 ?_;refine tA 5 ?_;refine tP 6 (hy:=by(intro Z hZ;have k0:=((show Below V.heap.size V Z from hZ).cell (aG V _ Ig.out)).trans Ig.out;go_simp;(try with_reducible rfl))) ?_;refine tA 7 ?_;refine tA 10 ?_;refine tP 11 (hy:=by(intro Z hZ;have k0:=((show Below V.heap.size V Z from hZ).cell (aG V _ RZ.out)).trans RZ.out;go_simp;(try with_reducible rfl))) ?_;refine tA 14 ?_;refine tP 15 (hy:=by(intro Z hZ;have k0:=((show Below V.heap.size V Z from hZ).cell (aG V _ Uw.out)).trans Uw.out;go_simp;(try with_reducible rfl))) ?_;refine tA 17 ?_;refine tP 18 (hy:=by(intro Z hZ;have k0:=((show Below V.heap.size V Z from hZ).cell (aG V _ Ig.out)).trans Ig.out;go_simp;(try with_reducible rfl))) ?_;refine nU (i:=0) (j:=8) (k:=12) (oi:= ?amD) (oj:= ?amE) (ok:= ?amF) (by kernel_rfl) ?ag4 ?ag5 ?ag6 ?ag7 ?ag8 ?ag9 (fun K0 hK0=> ?ag') (fun K8 hK8=> ?aha) (fun wU jk=> ?ahb)
  (case ag4=>(simp only [List.getElem?_toArray,List.getElem?_cons_zero];rfl))
  (case ag5=>(simp only [List.getElem?_toArray,List.getElem?_cons_zero,List.getElem?_cons_succ];rfl))
  (case ag6=>(simp only [List.getElem?_toArray,List.getElem?_cons_zero,List.getElem?_cons_succ];rfl))
  (case ag7=>kernel_rfl)
  (case ag8=>kernel_rfl)
  (case ag9=>kernel_rfl)
  case ag'=>
   refine iE _ rfl 1111705159 rfl ?_;intro y0 p0 hl hd;have F0:=ah hl;refine hK0 _ _ ((show VS V _ from hS).keep hd) (fun hS0=> ?_);clear hl hd hS hK0 K0;refine nU (i:=1) (j:=8) (k:=12) (oi:= ?amG) (oj:= ?amH) (ok:= ?amI) (by kernel_rfl) ?ahc ?ahd ?ahe ?ahf ?ahg ?ahh (fun K1 hK1=> ?ahi) (fun K8 hK8=> ?ahj) (fun wU jk=> ?ahk)
   (case ahc=>(simp only [List.getElem?_toArray,List.getElem?_cons_zero,List.getElem?_cons_succ];rfl))
   (case ahd=>(simp only [List.getElem?_toArray,List.getElem?_cons_zero,List.getElem?_cons_succ];rfl))
   (case ahe=>(simp only [List.getElem?_toArray,List.getElem?_cons_zero,List.getElem?_cons_succ];rfl))
   (case ahf=>kernel_rfl)
   (case ahg=>kernel_rfl)
   (case ahh=>kernel_rfl)
   case ahi=>
    go_simp;refine(jO [] [1111705159] HN.out.1 none _ 0 _ _ (aK _ _ _ _) F0.out (by simp) (by simp)).mono ?_;rintro e y1 ⟨v1,rfl,hv,hd⟩;obtain⟨A1,c1,rfl,-,hl⟩:=(bf hv).lies;replace F0:=ah (aP F0.out hd);have F1:=ah hl;refine hK1 _ _ ((show VS V _ from hS0).keep hd) (fun hS1=> ?_);clear hv hd hl hS0 hK1 K1;refine wQ 8 12 (h1:=fun K8 hK8=> ?XD) (h2:=fun wU jk=> ?XE)
    case XD=>
     refine fF _ _ _ _ rfl 1 N M 0 rfl rfl rfl rfl ?_;intro y8 p8 hl hd;replace F0:=ah (aP F0.out hd);replace F1:=ah (aP F1.out hd);have F8:=ah hl;refine hK8 _ _ ((show VS V _ from hS1).keep hd) (fun qw=> ?_);clear hl hd hS1 hK8 K8;refine wQ 9 12 (h1:=fun K9 hK9=> ?ahl) (h2:=fun wU jk=> ?ahm)
     case ahl=>
      go_simp;refine(bH [1,N,M,0] HN.out.2.2 _ _ _ (by simp) F8.out).mono ?_;rintro e y9 ⟨v9,rfl,hv,hd⟩;obtain⟨A9,c9,rfl,-,hl⟩:=(bf hv).lies;replace F0:=ah (aP F0.out hd);replace F1:=ah (aP F1.out hd);replace F8:=ah (aP F8.out hd);have F9:=ah hl;refine hK9 _ _ ((show VS V _ from qw).keep hd) (fun iJ=> ?_);clear hv hd hl qw hK9 K9;refine oQ 12 fun wU jk=> ?_;refine iE _ rfl vn rfl ?_;intro OU p12 hl hd;replace F0:=ah (aP F0.out hd);replace F1:=ah (aP F1.out hd);replace F8:=ah (aP F8.out hd);replace F9:=ah (aP F9.out hd);have iH:=ah hl;refine jk _ _ ((show VS V _ from iJ).keep hd) (fun jl=> ?_);clear hl hd iJ jk wU;refine oQ 13 fun wV jm=> ?_;go_simp;refine(jO [] [vn] HN.out.2.1 none _ 0 _ _ (aK _ _ _ _) iH.out (by simp) (by simp)).mono ?_;rintro e y13 ⟨v13,rfl,hv,hd⟩;obtain⟨yQ,c13,rfl,-,hl⟩:=(bf hv).lies;replace F0:=ah (aP F0.out hd);replace F1:=ah (aP F1.out hd);replace F8:=ah (aP F8.out hd);replace F9:=ah (aP F9.out hd);replace iH:=ah (aP iH.out hd);have wW:=ah hl;refine jm _ _ ((show VS V _ from jl).keep hd) (fun lu=> ?_);clear hv hd hl jl jm wV;clear F0 F8 iH;revert lu;revert wW;revert F9;revert F1;revert c13;revert yQ;revert c9;revert A9;revert c1;revert A1;revert p12;revert p8;revert p0;revert y13;exact tail 0
     case ahm=>
      refine iE _ rfl vn rfl ?_;intro OU p12 hl hd;replace F0:=ah (aP F0.out hd);replace F1:=ah (aP F1.out hd);replace F8:=ah (aP F8.out hd);have iH:=ah hl;refine jk _ _ ((show VS V _ from qw).keep hd) (fun jl=> ?_);clear hl hd qw jk wU;refine oQ 9 fun K9 hK9=> ?_;go_simp;refine(bH [1,N,M,0] HN.out.2.2 _ _ _ (by simp) F8.out).mono ?_;rintro e y9 ⟨v9,rfl,hv,hd⟩;obtain⟨A9,c9,rfl,-,hl⟩:=(bf hv).lies;replace F0:=ah (aP F0.out hd);replace F1:=ah (aP F1.out hd);replace F8:=ah (aP F8.out hd);replace iH:=ah (aP iH.out hd);have F9:=ah hl;refine hK9 _ _ ((show VS V _ from jl).keep hd) (fun iJ=> ?_);clear hv hd hl jl hK9 K9;refine oQ 13 fun wV jm=> ?_;go_simp;refine(jO [] [vn] HN.out.2.1 none _ 0 _ _ (aK _ _ _ _) iH.out (by simp) (by simp)).mono ?_;rintro e y13 ⟨v13,rfl,hv,hd⟩;obtain⟨yQ,c13,rfl,-,hl⟩:=(bf hv).lies;replace F0:=ah (aP F0.out hd);replace F1:=ah (aP F1.out hd);replace F8:=ah (aP F8.out hd);replace iH:=ah (aP iH.out hd);replace F9:=ah (aP F9.out hd);have wW:=ah hl;refine jm _ _ ((show VS V _ from iJ).keep hd) (fun lu=> ?_);clear hv hd hl iJ jm wV;clear F0 F8 iH;revert lu;revert wW;revert F9;revert F1;revert c13;revert yQ;revert c9;revert A9;revert c1;revert A1;revert p12;revert p8;revert p0;revert y13;exact tail 0
    case XE=>
     refine iE _ rfl vn rfl ?_;intro OU p12 hl hd;replace F0:=ah (aP F0.out hd);replace F1:=ah (aP F1.out hd);have iH:=ah hl;refine jk _ _ ((show VS V _ from hS1).keep hd) (fun jl=> ?_);clear hl hd hS1 jk wU;refine oQ 8 fun K8 hK8=> ?_;refine fF _ _ _ _ rfl 1 N M 0 rfl rfl rfl rfl ?_;intro y8 p8 hl hd;replace F0:=ah (aP F0.out hd);replace F1:=ah (aP F1.out hd);replace iH:=ah (aP iH.out hd);have F8:=ah hl;refine hK8 _ _ ((show VS V _ from jl).keep hd) (fun qw=> ?_);clear hl hd jl hK8 K8;refine oQ 9 fun K9 hK9=> ?_;go_simp;refine(bH [1,N,M,0] HN.out.2.2 _ _ _ (by simp) F8.out).mono ?_;rintro e y9 ⟨v9,rfl,hv,hd⟩;obtain⟨A9,c9,rfl,-,hl⟩:=(bf hv).lies;replace F0:=ah (aP F0.out hd);replace F1:=ah (aP F1.out hd);replace iH:=ah (aP iH.out hd);replace F8:=ah (aP F8.out hd);have F9:=ah hl;refine hK9 _ _ ((show VS V _ from qw).keep hd) (fun iJ=> ?_);clear hv hd hl qw hK9 K9;refine oQ 13 fun wV jm=> ?_;go_simp;refine(jO [] [vn] HN.out.2.1 none _ 0 _ _ (aK _ _ _ _) iH.out (by simp) (by simp)).mono ?_;rintro e y13 ⟨v13,rfl,hv,hd⟩;obtain⟨yQ,c13,rfl,-,hl⟩:=(bf hv).lies;replace F0:=ah (aP F0.out hd);replace F1:=ah (aP F1.out hd);replace iH:=ah (aP iH.out hd);replace F8:=ah (aP F8.out hd);replace F9:=ah (aP F9.out hd);have wW:=ah hl;refine jm _ _ ((show VS V _ from iJ).keep hd) (fun lu=> ?_);clear hv hd hl iJ jm wV;clear F0 F8 iH;revert lu;revert wW;revert F9;revert F1;revert c13;revert yQ;revert c9;revert A9;revert c1;revert A1;revert p12;revert p8;revert p0;revert y13;exact tail 0
   case ahj=>
    refine fF _ _ _ _ rfl 1 N M 0 rfl rfl rfl rfl ?_;intro y8 p8 hl hd;replace F0:=ah (aP F0.out hd);have F8:=ah hl;refine hK8 _ _ ((show VS V _ from hS0).keep hd) (fun qw=> ?_);clear hl hd hS0 hK8 K8;refine wQ 1 12 (h1:=fun K1 hK1=> ?ahn) (h2:=fun wU jk=> ?aho)
    case ahn=>
     go_simp;refine(jO [] [1111705159] HN.out.1 none _ 0 _ _ (aK _ _ _ _) F0.out (by simp) (by simp)).mono ?_;rintro e y1 ⟨v1,rfl,hv,hd⟩;obtain⟨A1,c1,rfl,-,hl⟩:=(bf hv).lies;replace F0:=ah (aP F0.out hd);replace F8:=ah (aP F8.out hd);have F1:=ah hl;refine hK1 _ _ ((show VS V _ from qw).keep hd) (fun hS1=> ?_);clear hv hd hl qw hK1 K1;refine wQ 9 12 (h1:=fun K9 hK9=> ?Me) (h2:=fun wU jk=> ?MC)
     case Me=>
      go_simp;refine(bH [1,N,M,0] HN.out.2.2 _ _ _ (by simp) F8.out).mono ?_;rintro e y9 ⟨v9,rfl,hv,hd⟩;obtain⟨A9,c9,rfl,-,hl⟩:=(bf hv).lies;replace F0:=ah (aP F0.out hd);replace F8:=ah (aP F8.out hd);replace F1:=ah (aP F1.out hd);have F9:=ah hl;refine hK9 _ _ ((show VS V _ from hS1).keep hd) (fun iJ=> ?_);clear hv hd hl hS1 hK9 K9;refine oQ 12 fun wU jk=> ?_;refine iE _ rfl vn rfl ?_;intro OU p12 hl hd;replace F0:=ah (aP F0.out hd);replace F8:=ah (aP F8.out hd);replace F1:=ah (aP F1.out hd);replace F9:=ah (aP F9.out hd);have iH:=ah hl;refine jk _ _ ((show VS V _ from iJ).keep hd) (fun jl=> ?_);clear hl hd iJ jk wU;refine oQ 13 fun wV jm=> ?_;go_simp;refine(jO [] [vn] HN.out.2.1 none _ 0 _ _ (aK _ _ _ _) iH.out (by simp) (by simp)).mono ?_;rintro e y13 ⟨v13,rfl,hv,hd⟩;obtain⟨yQ,c13,rfl,-,hl⟩:=(bf hv).lies;replace F0:=ah (aP F0.out hd);replace F8:=ah (aP F8.out hd);replace F1:=ah (aP F1.out hd);replace F9:=ah (aP F9.out hd);replace iH:=ah (aP iH.out hd);have wW:=ah hl;refine jm _ _ ((show VS V _ from jl).keep hd) (fun lu=> ?_);clear hv hd hl jl jm wV;clear F0 F8 iH;revert lu;revert wW;revert F9;revert F1;revert c13;revert yQ;revert c9;revert A9;revert c1;revert A1;revert p12;revert p8;revert p0;revert y13;exact tail 0
     case MC=>
      refine iE _ rfl vn rfl ?_;intro OU p12 hl hd;replace F0:=ah (aP F0.out hd);replace F8:=ah (aP F8.out hd);replace F1:=ah (aP F1.out hd);have iH:=ah hl;refine jk _ _ ((show VS V _ from hS1).keep hd) (fun jl=> ?_);clear hl hd hS1 jk wU;refine oQ 9 fun K9 hK9=> ?_;go_simp;refine(bH [1,N,M,0] HN.out.2.2 _ _ _ (by simp) F8.out).mono ?_;rintro e y9 ⟨v9,rfl,hv,hd⟩;obtain⟨A9,c9,rfl,-,hl⟩:=(bf hv).lies;replace F0:=ah (aP F0.out hd);replace F8:=ah (aP F8.out hd);replace F1:=ah (aP F1.out hd);replace iH:=ah (aP iH.out hd);have F9:=ah hl;refine hK9 _ _ ((show VS V _ from jl).keep hd) (fun iJ=> ?_);clear hv hd hl jl hK9 K9;refine oQ 13 fun wV jm=> ?_;go_simp;refine(jO [] [vn] HN.out.2.1 none _ 0 _ _ (aK _ _ _ _) iH.out (by simp) (by simp)).mono ?_;rintro e y13 ⟨v13,rfl,hv,hd⟩;obtain⟨yQ,c13,rfl,-,hl⟩:=(bf hv).lies;replace F0:=ah (aP F0.out hd);replace F8:=ah (aP F8.out hd);replace F1:=ah (aP F1.out hd);replace iH:=ah (aP iH.out hd);replace F9:=ah (aP F9.out hd);have wW:=ah hl;refine jm _ _ ((show VS V _ from iJ).keep hd) (fun lu=> ?_);clear hv hd hl iJ jm wV;clear F0 F8 iH;revert lu;revert wW;revert F9;revert F1;revert c13;revert yQ;revert c9;revert A9;revert c1;revert A1;revert p12;revert p8;revert p0;revert y13;exact tail 0
    case aho=>
     refine iE _ rfl vn rfl ?_;intro OU p12 hl hd;replace F0:=ah (aP F0.out hd);replace F8:=ah (aP F8.out hd);have iH:=ah hl;refine jk _ _ ((show VS V _ from qw).keep hd) (fun jl=> ?_);clear hl hd qw jk wU;refine oQ 1 fun K1 hK1=> ?_;go_simp;refine(jO [] [1111705159] HN.out.1 none _ 0 _ _ (aK _ _ _ _) F0.out (by simp) (by simp)).mono ?_;rintro e y1 ⟨v1,rfl,hv,hd⟩;obtain⟨A1,c1,rfl,-,hl⟩:=(bf hv).lies;replace F0:=ah (aP F0.out hd);replace F8:=ah (aP F8.out hd);replace iH:=ah (aP iH.out hd);have F1:=ah hl;refine hK1 _ _ ((show VS V _ from jl).keep hd) (fun hS1=> ?_);clear hv hd hl jl hK1 K1;refine oQ 9 fun K9 hK9=> ?_;go_simp;refine(bH [1,N,M,0] HN.out.2.2 _ _ _ (by simp) F8.out).mono ?_;rintro e y9 ⟨v9,rfl,hv,hd⟩;obtain⟨A9,c9,rfl,-,hl⟩:=(bf hv).lies;replace F0:=ah (aP F0.out hd);replace F8:=ah (aP F8.out hd);replace iH:=ah (aP iH.out hd);replace F1:=ah (aP F1.out hd);have F9:=ah hl;refine hK9 _ _ ((show VS V _ from hS1).keep hd) (fun iJ=> ?_);clear hv hd hl hS1 hK9 K9;refine oQ 13 fun wV jm=> ?_;go_simp;refine(jO [] [vn] HN.out.2.1 none _ 0 _ _ (aK _ _ _ _) iH.out (by simp) (by simp)).mono ?_;rintro e y13 ⟨v13,rfl,hv,hd⟩;obtain⟨yQ,c13,rfl,-,hl⟩:=(bf hv).lies;replace F0:=ah (aP F0.out hd);replace F8:=ah (aP F8.out hd);replace iH:=ah (aP iH.out hd);replace F1:=ah (aP F1.out hd);replace F9:=ah (aP F9.out hd);have wW:=ah hl;refine jm _ _ ((show VS V _ from iJ).keep hd) (fun lu=> ?_);clear hv hd hl iJ jm wV;clear F0 F8 iH;revert lu;revert wW;revert F9;revert F1;revert c13;revert yQ;revert c9;revert A9;revert c1;revert A1;revert p12;revert p8;revert p0;revert y13;exact tail 0
   case ahk=>
    refine iE _ rfl vn rfl ?_;intro OU p12 hl hd;replace F0:=ah (aP F0.out hd);have iH:=ah hl;refine jk _ _ ((show VS V _ from hS0).keep hd) (fun jl=> ?_);clear hl hd hS0 jk wU;refine wQ 1 8 (h1:=fun K1 hK1=> ?ahp) (h2:=fun K8 hK8=> ?ahq)
    case ahp=>
     go_simp;refine(jO [] [1111705159] HN.out.1 none _ 0 _ _ (aK _ _ _ _) F0.out (by simp) (by simp)).mono ?_;rintro e y1 ⟨v1,rfl,hv,hd⟩;obtain⟨A1,c1,rfl,-,hl⟩:=(bf hv).lies;replace F0:=ah (aP F0.out hd);replace iH:=ah (aP iH.out hd);have F1:=ah hl;refine hK1 _ _ ((show VS V _ from jl).keep hd) (fun hS1=> ?_);clear hv hd hl jl hK1 K1;refine oQ 8 fun K8 hK8=> ?_;refine fF _ _ _ _ rfl 1 N M 0 rfl rfl rfl rfl ?_;intro y8 p8 hl hd;replace F0:=ah (aP F0.out hd);replace iH:=ah (aP iH.out hd);replace F1:=ah (aP F1.out hd);have F8:=ah hl;refine hK8 _ _ ((show VS V _ from hS1).keep hd) (fun qw=> ?_);clear hl hd hS1 hK8 K8;refine oQ 9 fun K9 hK9=> ?_;go_simp;refine(bH [1,N,M,0] HN.out.2.2 _ _ _ (by simp) F8.out).mono ?_;rintro e y9 ⟨v9,rfl,hv,hd⟩;obtain⟨A9,c9,rfl,-,hl⟩:=(bf hv).lies;replace F0:=ah (aP F0.out hd);replace iH:=ah (aP iH.out hd);replace F1:=ah (aP F1.out hd);replace F8:=ah (aP F8.out hd);have F9:=ah hl;refine hK9 _ _ ((show VS V _ from qw).keep hd) (fun iJ=> ?_);clear hv hd hl qw hK9 K9;refine oQ 13 fun wV jm=> ?_;go_simp;refine(jO [] [vn] HN.out.2.1 none _ 0 _ _ (aK _ _ _ _) iH.out (by simp) (by simp)).mono ?_;rintro e y13 ⟨v13,rfl,hv,hd⟩;obtain⟨yQ,c13,rfl,-,hl⟩:=(bf hv).lies;replace F0:=ah (aP F0.out hd);replace iH:=ah (aP iH.out hd);replace F1:=ah (aP F1.out hd);replace F8:=ah (aP F8.out hd);replace F9:=ah (aP F9.out hd);have wW:=ah hl;refine jm _ _ ((show VS V _ from iJ).keep hd) (fun lu=> ?_);clear hv hd hl iJ jm wV;clear F0 F8 iH;revert lu;revert wW;revert F9;revert F1;revert c13;revert yQ;revert c9;revert A9;revert c1;revert A1;revert p12;revert p8;revert p0;revert y13;exact tail 0
    case ahq=>
     refine fF _ _ _ _ rfl 1 N M 0 rfl rfl rfl rfl ?_;intro y8 p8 hl hd;replace F0:=ah (aP F0.out hd);replace iH:=ah (aP iH.out hd);have F8:=ah hl;refine hK8 _ _ ((show VS V _ from jl).keep hd) (fun qw=> ?_);clear hl hd jl hK8 K8;refine oQ 1 fun K1 hK1=> ?_;go_simp;refine(jO [] [1111705159] HN.out.1 none _ 0 _ _ (aK _ _ _ _) F0.out (by simp) (by simp)).mono ?_;rintro e y1 ⟨v1,rfl,hv,hd⟩;obtain⟨A1,c1,rfl,-,hl⟩:=(bf hv).lies;replace F0:=ah (aP F0.out hd);replace iH:=ah (aP iH.out hd);replace F8:=ah (aP F8.out hd);have F1:=ah hl;refine hK1 _ _ ((show VS V _ from qw).keep hd) (fun hS1=> ?_);clear hv hd hl qw hK1 K1;refine oQ 9 fun K9 hK9=> ?_;go_simp;refine(bH [1,N,M,0] HN.out.2.2 _ _ _ (by simp) F8.out).mono ?_;rintro e y9 ⟨v9,rfl,hv,hd⟩;obtain⟨A9,c9,rfl,-,hl⟩:=(bf hv).lies;replace F0:=ah (aP F0.out hd);replace iH:=ah (aP iH.out hd);replace F8:=ah (aP F8.out hd);replace F1:=ah (aP F1.out hd);have F9:=ah hl;refine hK9 _ _ ((show VS V _ from hS1).keep hd) (fun iJ=> ?_);clear hv hd hl hS1 hK9 K9;refine oQ 13 fun wV jm=> ?_;go_simp;refine(jO [] [vn] HN.out.2.1 none _ 0 _ _ (aK _ _ _ _) iH.out (by simp) (by simp)).mono ?_;rintro e y13 ⟨v13,rfl,hv,hd⟩;obtain⟨yQ,c13,rfl,-,hl⟩:=(bf hv).lies;replace F0:=ah (aP F0.out hd);replace iH:=ah (aP iH.out hd);replace F8:=ah (aP F8.out hd);replace F1:=ah (aP F1.out hd);replace F9:=ah (aP F9.out hd);have wW:=ah hl;refine jm _ _ ((show VS V _ from iJ).keep hd) (fun lu=> ?_);clear hv hd hl iJ jm wV;clear F0 F8 iH;revert lu;revert wW;revert F9;revert F1;revert c13;revert yQ;revert c9;revert A9;revert c1;revert A1;revert p12;revert p8;revert p0;revert y13;exact tail 0
  case aha=>
   refine fF _ _ _ _ rfl 1 N M 0 rfl rfl rfl rfl ?_;intro y8 p8 hl hd;have F8:=ah hl;refine hK8 _ _ ((show VS V _ from hS).keep hd) (fun qw=> ?_);clear hl hd hS hK8 K8;refine wQ 0 12 (h1:=fun K0 hK0=> ?ahr) (h2:=fun wU jk=> ?ahs)
   case ahr=>
    refine iE _ rfl 1111705159 rfl ?_;intro y0 p0 hl hd;replace F8:=ah (aP F8.out hd);have F0:=ah hl;refine hK0 _ _ ((show VS V _ from qw).keep hd) (fun hS0=> ?_);clear hl hd qw hK0 K0;refine wQ 1 12 (h1:=fun K1 hK1=> ?aht) (h2:=fun wU jk=> ?ahu)
    case aht=>
     go_simp;refine(jO [] [1111705159] HN.out.1 none _ 0 _ _ (aK _ _ _ _) F0.out (by simp) (by simp)).mono ?_;rintro e y1 ⟨v1,rfl,hv,hd⟩;obtain⟨A1,c1,rfl,-,hl⟩:=(bf hv).lies;replace F8:=ah (aP F8.out hd);replace F0:=ah (aP F0.out hd);have F1:=ah hl;refine hK1 _ _ ((show VS V _ from hS0).keep hd) (fun hS1=> ?_);clear hv hd hl hS0 hK1 K1;refine wQ 9 12 (h1:=fun K9 hK9=> ?ahv) (h2:=fun wU jk=> ?ahw)
     case ahv=>
      go_simp;refine(bH [1,N,M,0] HN.out.2.2 _ _ _ (by simp) F8.out).mono ?_;rintro e y9 ⟨v9,rfl,hv,hd⟩;obtain⟨A9,c9,rfl,-,hl⟩:=(bf hv).lies;replace F8:=ah (aP F8.out hd);replace F0:=ah (aP F0.out hd);replace F1:=ah (aP F1.out hd);have F9:=ah hl;refine hK9 _ _ ((show VS V _ from hS1).keep hd) (fun iJ=> ?_);clear hv hd hl hS1 hK9 K9;refine oQ 12 fun wU jk=> ?_;refine iE _ rfl vn rfl ?_;intro OU p12 hl hd;replace F8:=ah (aP F8.out hd);replace F0:=ah (aP F0.out hd);replace F1:=ah (aP F1.out hd);replace F9:=ah (aP F9.out hd);have iH:=ah hl;refine jk _ _ ((show VS V _ from iJ).keep hd) (fun jl=> ?_);clear hl hd iJ jk wU;refine oQ 13 fun wV jm=> ?_;go_simp;refine(jO [] [vn] HN.out.2.1 none _ 0 _ _ (aK _ _ _ _) iH.out (by simp) (by simp)).mono ?_;rintro e y13 ⟨v13,rfl,hv,hd⟩;obtain⟨yQ,c13,rfl,-,hl⟩:=(bf hv).lies;replace F8:=ah (aP F8.out hd);replace F0:=ah (aP F0.out hd);replace F1:=ah (aP F1.out hd);replace F9:=ah (aP F9.out hd);replace iH:=ah (aP iH.out hd);have wW:=ah hl;refine jm _ _ ((show VS V _ from jl).keep hd) (fun lu=> ?_);clear hv hd hl jl jm wV;clear F0 F8 iH;revert lu;revert wW;revert F9;revert F1;revert c13;revert yQ;revert c9;revert A9;revert c1;revert A1;revert p12;revert p8;revert p0;revert y13;exact tail 0
     case ahw=>
      refine iE _ rfl vn rfl ?_;intro OU p12 hl hd;replace F8:=ah (aP F8.out hd);replace F0:=ah (aP F0.out hd);replace F1:=ah (aP F1.out hd);have iH:=ah hl;refine jk _ _ ((show VS V _ from hS1).keep hd) (fun jl=> ?_);clear hl hd hS1 jk wU;refine oQ 9 fun K9 hK9=> ?_;go_simp;refine(bH [1,N,M,0] HN.out.2.2 _ _ _ (by simp) F8.out).mono ?_;rintro e y9 ⟨v9,rfl,hv,hd⟩;obtain⟨A9,c9,rfl,-,hl⟩:=(bf hv).lies;replace F8:=ah (aP F8.out hd);replace F0:=ah (aP F0.out hd);replace F1:=ah (aP F1.out hd);replace iH:=ah (aP iH.out hd);have F9:=ah hl;refine hK9 _ _ ((show VS V _ from jl).keep hd) (fun iJ=> ?_);clear hv hd hl jl hK9 K9;refine oQ 13 fun wV jm=> ?_;go_simp;refine(jO [] [vn] HN.out.2.1 none _ 0 _ _ (aK _ _ _ _) iH.out (by simp) (by simp)).mono ?_;rintro e y13 ⟨v13,rfl,hv,hd⟩;obtain⟨yQ,c13,rfl,-,hl⟩:=(bf hv).lies;replace F8:=ah (aP F8.out hd);replace F0:=ah (aP F0.out hd);replace F1:=ah (aP F1.out hd);replace iH:=ah (aP iH.out hd);replace F9:=ah (aP F9.out hd);have wW:=ah hl;refine jm _ _ ((show VS V _ from iJ).keep hd) (fun lu=> ?_);clear hv hd hl iJ jm wV;clear F0 F8 iH;revert lu;revert wW;revert F9;revert F1;revert c13;revert yQ;revert c9;revert A9;revert c1;revert A1;revert p12;revert p8;revert p0;revert y13;exact tail 0
    case ahu=>
     refine iE _ rfl vn rfl ?_;intro OU p12 hl hd;replace F8:=ah (aP F8.out hd);replace F0:=ah (aP F0.out hd);have iH:=ah hl;refine jk _ _ ((show VS V _ from hS0).keep hd) (fun jl=> ?_);clear hl hd hS0 jk wU;refine oQ 1 fun K1 hK1=> ?_;go_simp;refine(jO [] [1111705159] HN.out.1 none _ 0 _ _ (aK _ _ _ _) F0.out (by simp) (by simp)).mono ?_;rintro e y1 ⟨v1,rfl,hv,hd⟩;obtain⟨A1,c1,rfl,-,hl⟩:=(bf hv).lies;replace F8:=ah (aP F8.out hd);replace F0:=ah (aP F0.out hd);replace iH:=ah (aP iH.out hd);have F1:=ah hl;refine hK1 _ _ ((show VS V _ from jl).keep hd) (fun hS1=> ?_);clear hv hd hl jl hK1 K1;refine oQ 9 fun K9 hK9=> ?_;go_simp;refine(bH [1,N,M,0] HN.out.2.2 _ _ _ (by simp) F8.out).mono ?_;rintro e y9 ⟨v9,rfl,hv,hd⟩;obtain⟨A9,c9,rfl,-,hl⟩:=(bf hv).lies;replace F8:=ah (aP F8.out hd);replace F0:=ah (aP F0.out hd);replace iH:=ah (aP iH.out hd);replace F1:=ah (aP F1.out hd);have F9:=ah hl;refine hK9 _ _ ((show VS V _ from hS1).keep hd) (fun iJ=> ?_);clear hv hd hl hS1 hK9 K9;refine oQ 13 fun wV jm=> ?_;go_simp;refine(jO [] [vn] HN.out.2.1 none _ 0 _ _ (aK _ _ _ _) iH.out (by simp) (by simp)).mono ?_;rintro e y13 ⟨v13,rfl,hv,hd⟩;obtain⟨yQ,c13,rfl,-,hl⟩:=(bf hv).lies;replace F8:=ah (aP F8.out hd);replace F0:=ah (aP F0.out hd);replace iH:=ah (aP iH.out hd);replace F1:=ah (aP F1.out hd);replace F9:=ah (aP F9.out hd);have wW:=ah hl;refine jm _ _ ((show VS V _ from iJ).keep hd) (fun lu=> ?_);clear hv hd hl iJ jm wV;clear F0 F8 iH;revert lu;revert wW;revert F9;revert F1;revert c13;revert yQ;revert c9;revert A9;revert c1;revert A1;revert p12;revert p8;revert p0;revert y13;exact tail 0
   case ahs=>
    refine iE _ rfl vn rfl ?_;intro OU p12 hl hd;replace F8:=ah (aP F8.out hd);have iH:=ah hl;refine jk _ _ ((show VS V _ from qw).keep hd) (fun jl=> ?_);clear hl hd qw jk wU;refine oQ 0 fun K0 hK0=> ?_;refine iE _ rfl 1111705159 rfl ?_;intro y0 p0 hl hd;replace F8:=ah (aP F8.out hd);replace iH:=ah (aP iH.out hd);have F0:=ah hl;refine hK0 _ _ ((show VS V _ from jl).keep hd) (fun hS0=> ?_);clear hl hd jl hK0 K0;refine oQ 1 fun K1 hK1=> ?_;go_simp;refine(jO [] [1111705159] HN.out.1 none _ 0 _ _ (aK _ _ _ _) F0.out (by simp) (by simp)).mono ?_;rintro e y1 ⟨v1,rfl,hv,hd⟩;obtain⟨A1,c1,rfl,-,hl⟩:=(bf hv).lies;replace F8:=ah (aP F8.out hd);replace iH:=ah (aP iH.out hd);replace F0:=ah (aP F0.out hd);have F1:=ah hl;refine hK1 _ _ ((show VS V _ from hS0).keep hd) (fun hS1=> ?_);clear hv hd hl hS0 hK1 K1;refine oQ 9 fun K9 hK9=> ?_;go_simp;refine(bH [1,N,M,0] HN.out.2.2 _ _ _ (by simp) F8.out).mono ?_;rintro e y9 ⟨v9,rfl,hv,hd⟩;obtain⟨A9,c9,rfl,-,hl⟩:=(bf hv).lies;replace F8:=ah (aP F8.out hd);replace iH:=ah (aP iH.out hd);replace F0:=ah (aP F0.out hd);replace F1:=ah (aP F1.out hd);have F9:=ah hl;refine hK9 _ _ ((show VS V _ from hS1).keep hd) (fun iJ=> ?_);clear hv hd hl hS1 hK9 K9;refine oQ 13 fun wV jm=> ?_;go_simp;refine(jO [] [vn] HN.out.2.1 none _ 0 _ _ (aK _ _ _ _) iH.out (by simp) (by simp)).mono ?_;rintro e y13 ⟨v13,rfl,hv,hd⟩;obtain⟨yQ,c13,rfl,-,hl⟩:=(bf hv).lies;replace F8:=ah (aP F8.out hd);replace iH:=ah (aP iH.out hd);replace F0:=ah (aP F0.out hd);replace F1:=ah (aP F1.out hd);replace F9:=ah (aP F9.out hd);have wW:=ah hl;refine jm _ _ ((show VS V _ from iJ).keep hd) (fun lu=> ?_);clear hv hd hl iJ jm wV;clear F0 F8 iH;revert lu;revert wW;revert F9;revert F1;revert c13;revert yQ;revert c9;revert A9;revert c1;revert A1;revert p12;revert p8;revert p0;revert y13;exact tail 0
  case ahb=>
   refine iE _ rfl vn rfl ?_;intro OU p12 hl hd;have iH:=ah hl;refine jk _ _ ((show VS V _ from hS).keep hd) (fun jl=> ?_);clear hl hd hS jk wU;refine wQ 0 8 (h1:=fun K0 hK0=> ?ahx) (h2:=fun K8 hK8=> ?ahy)
   case ahx=>
    refine iE _ rfl 1111705159 rfl ?_;intro y0 p0 hl hd;replace iH:=ah (aP iH.out hd);have F0:=ah hl;refine hK0 _ _ ((show VS V _ from jl).keep hd) (fun hS0=> ?_);clear hl hd jl hK0 K0;refine wQ 1 8 (h1:=fun K1 hK1=> ?ahz) (h2:=fun K8 hK8=> ?ahA)
    case ahz=>
     go_simp;refine(jO [] [1111705159] HN.out.1 none _ 0 _ _ (aK _ _ _ _) F0.out (by simp) (by simp)).mono ?_;rintro e y1 ⟨v1,rfl,hv,hd⟩;obtain⟨A1,c1,rfl,-,hl⟩:=(bf hv).lies;replace iH:=ah (aP iH.out hd);replace F0:=ah (aP F0.out hd);have F1:=ah hl;refine hK1 _ _ ((show VS V _ from hS0).keep hd) (fun hS1=> ?_);clear hv hd hl hS0 hK1 K1;refine oQ 8 fun K8 hK8=> ?_;refine fF _ _ _ _ rfl 1 N M 0 rfl rfl rfl rfl ?_;intro y8 p8 hl hd;replace iH:=ah (aP iH.out hd);replace F0:=ah (aP F0.out hd);replace F1:=ah (aP F1.out hd);have F8:=ah hl;refine hK8 _ _ ((show VS V _ from hS1).keep hd) (fun qw=> ?_);clear hl hd hS1 hK8 K8;refine oQ 9 fun K9 hK9=> ?_;go_simp;refine(bH [1,N,M,0] HN.out.2.2 _ _ _ (by simp) F8.out).mono ?_;rintro e y9 ⟨v9,rfl,hv,hd⟩;obtain⟨A9,c9,rfl,-,hl⟩:=(bf hv).lies;replace iH:=ah (aP iH.out hd);replace F0:=ah (aP F0.out hd);replace F1:=ah (aP F1.out hd);replace F8:=ah (aP F8.out hd);have F9:=ah hl;refine hK9 _ _ ((show VS V _ from qw).keep hd) (fun iJ=> ?_);clear hv hd hl qw hK9 K9;refine oQ 13 fun wV jm=> ?_;go_simp;refine(jO [] [vn] HN.out.2.1 none _ 0 _ _ (aK _ _ _ _) iH.out (by simp) (by simp)).mono ?_;rintro e y13 ⟨v13,rfl,hv,hd⟩;obtain⟨yQ,c13,rfl,-,hl⟩:=(bf hv).lies;replace iH:=ah (aP iH.out hd);replace F0:=ah (aP F0.out hd);replace F1:=ah (aP F1.out hd);replace F8:=ah (aP F8.out hd);replace F9:=ah (aP F9.out hd);have wW:=ah hl;refine jm _ _ ((show VS V _ from iJ).keep hd) (fun lu=> ?_);clear hv hd hl iJ jm wV;clear F0 F8 iH;revert lu;revert wW;revert F9;revert F1;revert c13;revert yQ;revert c9;revert A9;revert c1;revert A1;revert p12;revert p8;revert p0;revert y13;exact tail 0
    case ahA=>
     refine fF _ _ _ _ rfl 1 N M 0 rfl rfl rfl rfl ?_;intro y8 p8 hl hd;replace iH:=ah (aP iH.out hd);replace F0:=ah (aP F0.out hd);have F8:=ah hl;refine hK8 _ _ ((show VS V _ from hS0).keep hd) (fun qw=> ?_);clear hl hd hS0 hK8 K8;refine oQ 1 fun K1 hK1=> ?_;go_simp;refine(jO [] [1111705159] HN.out.1 none _ 0 _ _ (aK _ _ _ _) F0.out (by simp) (by simp)).mono ?_;rintro e y1 ⟨v1,rfl,hv,hd⟩;obtain⟨A1,c1,rfl,-,hl⟩:=(bf hv).lies;replace iH:=ah (aP iH.out hd);replace F0:=ah (aP F0.out hd);replace F8:=ah (aP F8.out hd);have F1:=ah hl;refine hK1 _ _ ((show VS V _ from qw).keep hd) (fun hS1=> ?_);clear hv hd hl qw hK1 K1;refine oQ 9 fun K9 hK9=> ?_;go_simp;refine(bH [1,N,M,0] HN.out.2.2 _ _ _ (by simp) F8.out).mono ?_;rintro e y9 ⟨v9,rfl,hv,hd⟩;obtain⟨A9,c9,rfl,-,hl⟩:=(bf hv).lies;replace iH:=ah (aP iH.out hd);replace F0:=ah (aP F0.out hd);replace F8:=ah (aP F8.out hd);replace F1:=ah (aP F1.out hd);have F9:=ah hl;refine hK9 _ _ ((show VS V _ from hS1).keep hd) (fun iJ=> ?_);clear hv hd hl hS1 hK9 K9;refine oQ 13 fun wV jm=> ?_;go_simp;refine(jO [] [vn] HN.out.2.1 none _ 0 _ _ (aK _ _ _ _) iH.out (by simp) (by simp)).mono ?_;rintro e y13 ⟨v13,rfl,hv,hd⟩;obtain⟨yQ,c13,rfl,-,hl⟩:=(bf hv).lies;replace iH:=ah (aP iH.out hd);replace F0:=ah (aP F0.out hd);replace F8:=ah (aP F8.out hd);replace F1:=ah (aP F1.out hd);replace F9:=ah (aP F9.out hd);have wW:=ah hl;refine jm _ _ ((show VS V _ from iJ).keep hd) (fun lu=> ?_);clear hv hd hl iJ jm wV;clear F0 F8 iH;revert lu;revert wW;revert F9;revert F1;revert c13;revert yQ;revert c9;revert A9;revert c1;revert A1;revert p12;revert p8;revert p0;revert y13;exact tail 0
   case ahy=>
    refine fF _ _ _ _ rfl 1 N M 0 rfl rfl rfl rfl ?_;intro y8 p8 hl hd;replace iH:=ah (aP iH.out hd);have F8:=ah hl;refine hK8 _ _ ((show VS V _ from jl).keep hd) (fun qw=> ?_);clear hl hd jl hK8 K8;refine oQ 0 fun K0 hK0=> ?_;refine iE _ rfl 1111705159 rfl ?_;intro y0 p0 hl hd;replace iH:=ah (aP iH.out hd);replace F8:=ah (aP F8.out hd);have F0:=ah hl;refine hK0 _ _ ((show VS V _ from qw).keep hd) (fun hS0=> ?_);clear hl hd qw hK0 K0;refine oQ 1 fun K1 hK1=> ?_;go_simp;refine(jO [] [1111705159] HN.out.1 none _ 0 _ _ (aK _ _ _ _) F0.out (by simp) (by simp)).mono ?_;rintro e y1 ⟨v1,rfl,hv,hd⟩;obtain⟨A1,c1,rfl,-,hl⟩:=(bf hv).lies;replace iH:=ah (aP iH.out hd);replace F8:=ah (aP F8.out hd);replace F0:=ah (aP F0.out hd);have F1:=ah hl;refine hK1 _ _ ((show VS V _ from hS0).keep hd) (fun hS1=> ?_);clear hv hd hl hS0 hK1 K1;refine oQ 9 fun K9 hK9=> ?_;go_simp;refine(bH [1,N,M,0] HN.out.2.2 _ _ _ (by simp) F8.out).mono ?_;rintro e y9 ⟨v9,rfl,hv,hd⟩;obtain⟨A9,c9,rfl,-,hl⟩:=(bf hv).lies;replace iH:=ah (aP iH.out hd);replace F8:=ah (aP F8.out hd);replace F0:=ah (aP F0.out hd);replace F1:=ah (aP F1.out hd);have F9:=ah hl;refine hK9 _ _ ((show VS V _ from hS1).keep hd) (fun iJ=> ?_);clear hv hd hl hS1 hK9 K9;refine oQ 13 fun wV jm=> ?_;go_simp;refine(jO [] [vn] HN.out.2.1 none _ 0 _ _ (aK _ _ _ _) iH.out (by simp) (by simp)).mono ?_;rintro e y13 ⟨v13,rfl,hv,hd⟩;obtain⟨yQ,c13,rfl,-,hl⟩:=(bf hv).lies;replace iH:=ah (aP iH.out hd);replace F8:=ah (aP F8.out hd);replace F0:=ah (aP F0.out hd);replace F1:=ah (aP F1.out hd);replace F9:=ah (aP F9.out hd);have wW:=ah hl;refine jm _ _ ((show VS V _ from iJ).keep hd) (fun lu=> ?_);clear hv hd hl iJ jm wV;clear F0 F8 iH;revert lu;revert wW;revert F9;revert F1;revert c13;revert yQ;revert c9;revert A9;revert c1;revert A1;revert p12;revert p8;revert p0;revert y13;exact tail 0
 case t=>
  intro y13 p0 p8 p12 A1 c1 A9 c9 yQ c13 F1 F9 wW lu;refine oQ 16 fun qW fJ=> ?_;go_simp;refine(HW0.out _ (show VS V _ from lu)).mono ?_;rintro e nS ⟨v16,rfl,hv,hd⟩;obtain⟨A16,c16,rfl,-,hl⟩:=(bf hv).lies;replace F1:=ah (aP F1.out hd);replace F9:=ah (aP F9.out hd);replace wW:=ah (aP wW.out hd);have dJ:=ah hl;refine fJ _ _ ((show VS V _ from lu).keep hd) (fun gq=> ?_);clear hv hd hl lu fJ qW;refine oQ 19 fun K19 XL=> ?_;go_simp;refine(HW1.out _ (show VS V _ from gq)).mono ?_;rintro e y19 ⟨v19,rfl,hv,hd⟩;obtain⟨A19,c19,rfl,-,hl⟩:=(bf hv).lies;replace F1:=ah (aP F1.out hd);replace F9:=ah (aP F9.out hd);replace wW:=ah (aP wW.out hd);replace dJ:=ah (aP dJ.out hd);have F19:=ah hl;refine XL _ _ ((show VS V _ from gq).keep hd) (fun adt=> ?_);clear hv hd hl gq XL K19;refine oQ 20 fun K20 ahB=> ?_;refine aaJ _ _ _ _ _ rfl (A1,c1,[]++ [1111705159].flatMap (be 4)) (A9,c9,[1,N,M,0].flatMap (be 2)) (yQ,c13,[]++ [vn].flatMap (be 4)) (A16,c16,L0) (A19,c19,L1) rfl rfl rfl rfl rfl ?_;intro y20 p20 hl hd;replace F1:=ah (aP F1.out hd);replace F9:=ah (aP F9.out hd);replace wW:=ah (aP wW.out hd);replace dJ:=ah (aP dJ.out hd);replace F19:=ah (aP F19.out hd);have F20:=ah hl;refine ahB _ _ ((show VS V _ from adt).keep hd) (fun adu=> ?_);clear hl hd adt ahB K20;refine oQ 21 fun K21 XM=> ?_;go_simp;refine(yc [(A1,c1,[]++ [1111705159].flatMap (be 4)),(A9,c9,[1,N,M,0].flatMap (be 2)),(yQ,c13,[]++ [vn].flatMap (be 4)),(A16,c16,L0),(A19,c19,L1)] _ _ _ _ (aj _) F20.out (yJ F1.out (yJ F9.out (yJ wW.out (yJ dJ.out (yJ F19.out (fun _ h=>nomatch h)))))) (by have h1:=HLL.out;simp [dQ,kU];omega) (by simp [maxLen])).mono ?_;rintro e y21 ⟨v21,rfl,hv,hd⟩;have lD:=ah (ak hv (ak (show VS V _ from adu) hd));refine XM _ _ ((show VS V _ from adu).keep hd) (fun ahC=> ?_);clear hv hd adu XM K21;refine tA 22 ?_;refine wpAnyH_done (by kernel_rfl) ?_ _;clear ahC;go_wp2
  go_ret;exact bT.out _ _ _ _ _ _ _ _ _ _ _ _ _ lD.out.1 lD.out.2.1 lD.out.2.2
def Iq(x:Cf)(w:World)(e:Ending)(w':World):Prop:=(if lT x=0 then∃v,e= .returned (.tuple #[v,.int .i64 0])/\ w'.ownsRow w.heap.size 5 1 v (tY x).length (jF (tY x))else e= .returned (.tuple #[.slice none 0 0,.int .i64 (lT x:Int)]))/\ Below w.heap.size w w'
theorem Iq.no{x:Cf}{w w':World}{n:Nat}(h:lT x=n)(hn:n≠0)(hb:Below w.heap.size w w'):Iq x w (.returned (.tuple #[.slice none 0 0,.int .i64 (n:Int)])) w':=⟨by rw [if_neg (by omega),h],hb⟩
theorem Iq.yes{x:Cf}{w w':World}{v:Value}(h:lT x=0)(hv:w'.ownsRow w.heap.size 5 1 v (tY x).length (jF (tY x)))(hb:Below w.heap.size w w'):Iq x w (.returned (.tuple #[v,.int .i64 0])) w':=⟨by rw [if_pos h];exact⟨v,rfl,hv⟩,hb⟩
theorem XO(x:Cf)(a c:Value)(w:World)(hx:Ai w w.heap.size x a c)(hb:Aj x)(hnk:NmK x):Calls Tryz.prog 38 #[ji x a c] w (Iq x w):=by
 obtain⟨V,hV⟩:=aqx (w.alloc (.cells (vec 3 (eX x.ver a c)) 31));have k1:aU V w.heap.size 31 3 (eX x.ver a c):=(by rw [hV];exact aU.new w _ _ _);have hB:Below w.heap.size w V:=(by rw [hV];exact(aC _ _).alloc (aj _) _);have HK:=ah hB;have HA:=ah k1;have HCX:=ah (hx.up hB);have HRF:=ah (MS x a c V (hx.up hB) hnk);have Sr:Hid (vC x=0->∀Y,Below V.heap.size V Y->Calls Tryz.prog 72 #[ji x a c] Y (Bytes Y (tY x))):=ah (fun h Y hY=>XK x a c Y (HCX.out.up hY) hb h);have Sv:Hid (lT x=if vC x=0 then(if(tY x).length<=65536 then 0 else 2)else vC x):=ah rfl;have je:Hid (∀ (v:Value) (W:World),lT x=0->W.ownsRow w.heap.size 5 1 v (tY x).length (jF (tY x))->Below w.heap.size w W->Iq x w (.returned (.tuple #[v,.int .i64 0])) W):=ah (fun v W h1 h2 h3=>Iq.yes h1 h2 h3);have qR:Hid (∀ (n:Nat) (W:World),lT x=n->n≠0->Below w.heap.size w W->Iq x w (.returned (.tuple #[.slice none 0 0,.int .i64 (n:Int)])) W):=ah (fun n W h1 h2 h3=>Iq.no h1 h2 h3);obtain⟨Q,hQ⟩:=aqx (Iq x w);rw [<-hQ]at je qR⊢;have HW:=ah hV;unfold ji at HRF Sr⊢;obtain⟨n,hn⟩:=aqx (vC x);rw [<-hn]at HRF Sr Sv;obtain⟨LZ,hLZ⟩:=aqx (tY x);rw [<-hLZ]at Sr Sv je;clear hV k1 hB hx hb hnk hQ hn hLZ;go_enter Tryz.func38,Tryz.ntmps38;go_upto_region 1 with fail
 rw [<-HW.out];clear HW;by_cases hn:n=0
 rotate_left
 · have n1:((n:Int) !=0)=true:=bne_iff_ne.2 (by omega)
   have n2:¬ (n:Int)=0:=(by omega);have HE:Hid (lT x=n/\ n≠0):=ah ⟨by rw [Sv.out,if_neg hn],hn⟩;clear hn;go_wp2_with(first
    |((with_reducible refine aqy (.load _ _) ?_);refine bM rfl 31 _ rfl _ rfl _ (aQ HA.out Tryz.underlying31 rfl dR) ?_)
    |(go_at_call 71;refine HRF.out.mono ?_;rintro e w1 ⟨rfl,hd⟩;have HD:=ah hd;clear hd))
   exact qR.out n _ HE.out.1 HE.out.2 (HK.out.trans (HD.out.mono HK.out.size))
 subst hn;have HL:=ah (Sr.out rfl);have HE:Hid (lT x=if LZ.length<=65536 then 0 else 2):=ah (by rw [Sv.out,if_pos rfl]);clear Sv Sr HCX;go_upto_region 5 with(first
    |((with_reducible refine aqz 6 (.load _ _) ?_);refine bM rfl 31 _ rfl _ rfl _ (aQ HA.out Tryz.underlying31 rfl dR) ?_)
    |((with_reducible refine aqy (.load _ _) ?_);refine bM rfl 31 _ rfl _ rfl _ (aQ (HA.out.under HD.out) Tryz.underlying31 rfl dR) ?_)
    |(go_at_call 71;refine HRF.out.mono ?_;rintro e w1 ⟨rfl,hd⟩;have HD:=ah hd;clear hd)
    |(go_at_call 72;refine(HL.out _ HD.out).mono ?_;rintro e w2 ⟨v,rfl,hv,hd⟩;obtain⟨A,cc,rfl,-,-⟩:=(bf hv).lies;have HV:=ah (ak hv hd);clear hv hd))
 have HT:=ah (Nu A LZ.length cc);have HB:Hid (Below w.heap.size w w2):=ah ((HK.out.trans (HD.out.mono HK.out.size)).trans (HV.out.2.mono (HK.out.trans (HD.out.mono HK.out.size)).size));have HO:Hid (w2.ownsRow w.heap.size 5 1 (.slice A LZ.length cc) LZ.length (jF LZ)):=ah (iK HV.out.1 (HK.out.trans (HD.out.mono HK.out.size)).size);clear HV HD;by_cases hlong:65536<LZ.length
 · rw [decide_eq_true hlong]at HT
   have HE2:Hid (lT x=2):=ah (by rw [HE.out,if_neg (by omega)]);clear hlong HE;go_wp2_with(go_at_call 73;refine(HT.out _).mono ?_;rintro e w3 ⟨rfl,rfl⟩)
   exact qR.out 2 _ HE2.out (by decide) HB.out
 · rw [decide_eq_false hlong]at HT
   have HE2:Hid (lT x=0):=ah (by rw [HE.out,if_pos (by omega)]);clear hlong HE;go_wp2_with(go_at_call 73;refine(HT.out _).mono ?_;rintro e w3 ⟨rfl,rfl⟩)
   exact je.out _ _ HE2.out HO.out HB.out
open Go.RowKit Go.Maps
def Sz(pages:Nat)(key:By)(pa:Nat):Cf:=⟨1,[Pz rM 0 1074790400 key,Pz rO 1 pa key],[rF pages]⟩
theorem ahD(pages:Nat)(key:By):xS pages key=Sz pages key 1075838976:=rfl
theorem SA(nm:By)(hn:jD nm=true)(cpu:Nat)(hc:cpu<=1)(pa:Nat)(key:By)(hk:Ij key=true):jX (Pz nm cpu pa key)=0:=by
 unfold jX;rw [if_neg (by show¬jD nm=false;rw [hn];decide),if_neg (by show¬Ij key=false;rw [hk];decide),if_neg (by show¬ (true=false);decide)];show jg ((!inB 7 0 7||false)||((!inB (32+(cpu:Int)) 0 65535|| !inB (cpu:Int) 0 65535)||false))=0
 unfold inB jg;rw [decide_eq_true (by omega),decide_eq_true (by omega),decide_eq_true (by omega)]
 rfl
theorem ahE(pages:Nat)(key:By)(pa:Nat)(hk:Ij key=true)(hl:key.length=68):lT (Sz pages key pa)=0:=by
 have h0:=SA rM (by decide+kernel) 0 (by decide) 1074790400 key hk;have h1:=SA rO (by decide+kernel) 1 (by decide) pa key hk;have hc:vC (Sz pages key pa)=0:=by
  unfold vC;rw [if_neg (by show¬ ((inB 2 1 16&&inB 1 0 32)=false);decide)];have he:dK jX (Sz pages key pa).gs=0:=by
   show(if jX (Pz rM 0 1074790400 key)=0 then(if jX (Pz rO 1 pa key)=0 then 0 else jX (Pz rO 1 pa key))else jX (Pz rM 0 1074790400 key))=0
   rw [if_pos h0,if_pos h1]
  rw [if_pos he]
  rfl
 unfold lT;rw [if_pos hc,if_pos];unfold tY;have l0:=FP (g:=Pz rM 0 1074790400 key) hl h0;have l1:=FP (g:=Pz rO 1 pa key) hl h1;have l2:=CZ (rF pages);show(be 4 1111705159++(be 2 1++(be 2 2++(be 2 1++(be 2 0++be 4 1))))++([Pz rM 0 1074790400 key,Pz rO 1 pa key].flatMap nZ++ [rF pages].flatMap kD)).length<=65536
 simp only [List.length_append,kU,List.flatMap_cons,List.flatMap_nil,List.length_nil];omega
theorem adv(key:By){pages:Nat}(h1:1<=pages)(h2:pages<=64):tZ bS (xS pages key) 0 (rF pages)=true:=by
 have h:∀n,n<65->1<=n->tZ bS (xS n []) 0 (rF n)=true:=(by decide+kernel);exact h pages (by omega) h1
theorem SB(key:By){pages:Nat}(h1:1<=pages)(h2:pages<=64):rQ (xS pages key) (rF pages) (rF pages).a=true/\ rQ (xS pages key) (rF pages) (rF pages).b=true:=by
 have h:∀n,n<65->1<=n->(rQ (xS n []) (rF n) (rF n).a=true/\ rQ (xS n []) (rF n) (rF n).b=true):=(by decide+kernel);exact h pages (by omega) h1
theorem XP(key:By){pages:Nat}(h1:1<=pages)(h2:pages<=64)(g:Nat)(hg:g<2):qh (xS pages key) g=true:=by
 have h:∀n,n<65->1<=n->∀g,g<2->qh (xS n []) g=true:=(by decide+kernel);have e:qh (xS pages key) g=qh (xS pages []) g:=by
  rcases(by omega:g=0∨g=1)with rfl|rfl<;>kernel_rfl
 rw [e];exact h pages (by omega) h1 g hg
theorem UE(pages:Nat)(key:By)(h1:1<=pages)(h2:pages<=64)(hk:Ij key=true)(hl:key.length=68):SC bS (xS pages key) where
 fit:=by decide+kernel
 err:=ahE pages key 1075838976 hk hl
 names:=fun i hi=>by
  have hi:i<2:=hi;have n0:nameB (xS pages key) 0=true:=(by kernel_rfl);have n1:nameB (xS pages key) 1=true:=(by kernel_rfl);rcases(by omega:i=0∨i=1)with rfl|rfl
  · exact n0
  · exact n1
 XQ:=fun g hg=>by
  have hg:g<2:=hg;rcases(by omega:g=0∨g=1)with rfl|rfl
  · exact⟨by kernel_rfl,by kernel_rfl,by kernel_rfl,by kernel_rfl,by kernel_rfl,by kernel_rfl,by kernel_rfl,by kernel_rfl⟩
  · exact⟨by kernel_rfl,by kernel_rfl,by kernel_rfl,by kernel_rfl,by kernel_rfl,by kernel_rfl,by kernel_rfl,by kernel_rfl⟩
 chans:=fun k hk=>by
  have hk:k<1:=hk;obtain rfl:k=0:=by omega
  exact⟨adv key h1 h2,show(0:Int)≠1 by decide,(SB key h1 h2).1,(SB key h1 h2).2⟩
 maps:=fun g hg=>XP key h1 h2 g hg
theorem Nv(pages:Nat)(key:By)(h1:1<=pages)(h2:pages<=64)(hk:Ij key=true)(hl:key.length=68):lU bS (xS pages key)=(0,0,0):=UF (UE pages key h1 h2 hk hl)
def sG:By:=[0,0,0,1]++List.replicate 64 0
theorem yj:Ij sG=true/\ sG.length=68:=by decide+kernel
theorem UG:lU bS (Sz 1 sG 1074786304)=(4,1,170):=by
 have he:lT (Sz 1 sG 1074786304)=0:=ahE 1 sG 1074786304 yj.1 yj.2;have hh:mO bS (Sz 1 sG 1074786304)=(0,0):=by
  unfold mO;rw [he,show sH bS=true by decide+kernel]
  rfl
 unfold lU qB;rw [hh]
 decide+kernel
open Go.Shelf
def XR:Go.Shelf.Ren:=⟨fun|6=>192|15=>197|14=>196|28=>207|29=>189|20=>199|21=>200|22=>201|23=>202|24=>203|25=>204|26=>205|27=>206|46=>208|47=>209|48=>210|49=>211|50=>212|57=>213|n=>n,fun|22=>40|24=>24|25=>228|3=>3|39=>199|0=>0|53=>27|55=>22|4=>4|46=>241|45=>240|50=>192|5=>5|9=>9|66=>247|70=>251|76=>253|77=>254|n=>n,fun|n=>n⟩
theorem ahF:Go.Proofs.SlLaysF0.n6 Tryz.prog XR:= {
 mixed:=by kernel_rfl
 f6:=⟨Tryz.f192.name,by decide,Tryz.func192.trans (congrArg some (by kernel_rfl))⟩
 f14:=⟨Tryz.f196.name,by decide,Tryz.func196.trans (congrArg some (by kernel_rfl))⟩
 f15:=Tryz.func197.trans (congrArg some (by kernel_rfl))
 f20:=⟨Tryz.f199.name,by decide,Tryz.func199.trans (congrArg some (by kernel_rfl))⟩
 f21:=⟨Tryz.f200.name,by decide,Tryz.func200.trans (congrArg some (by kernel_rfl))⟩
 f22:=⟨Tryz.f201.name,by decide,Tryz.func201.trans (congrArg some (by kernel_rfl))⟩
 f23:=⟨Tryz.f202.name,by decide,Tryz.func202.trans (congrArg some (by kernel_rfl))⟩
 f24:=⟨Tryz.f203.name,by decide,Tryz.func203.trans (congrArg some (by kernel_rfl))⟩
 f25:=⟨Tryz.f204.name,by decide,Tryz.func204.trans (congrArg some (by kernel_rfl))⟩
 f26:=⟨Tryz.f205.name,by decide,Tryz.func205.trans (congrArg some (by kernel_rfl))⟩
 f27:=⟨Tryz.f206.name,by decide,Tryz.func206.trans (congrArg some (by kernel_rfl))⟩
 f28:=Tryz.func207.trans (congrArg some (by kernel_rfl))
 f29:=Tryz.func189.trans (congrArg some (by kernel_rfl))
 f46:=⟨Tryz.f208.name,by decide,Tryz.func208.trans (congrArg some (by kernel_rfl))⟩
 f47:=Tryz.func209.trans (congrArg some (by kernel_rfl))
 f48:=Tryz.func210.trans (congrArg some (by kernel_rfl))
 f49:=⟨Tryz.f211.name,by decide,Tryz.func211.trans (congrArg some (by kernel_rfl))⟩
 f50:=⟨Tryz.f212.name,by decide,Tryz.func212.trans (congrArg some (by kernel_rfl))⟩
 f57:=⟨Tryz.f213.name,by decide,Tryz.func213.trans (congrArg some (by kernel_rfl))⟩
 t0:=Tryz.underlying0
 a0:=Tryz.isAgg0
 z0:=Tryz.sizeOf0
 v0:=Tryz.zeroValue0
 t3:=Tryz.underlying3
 a3:=Tryz.isAgg3
 z3:=Tryz.sizeOf3
 v3:=Tryz.zeroValue3
 t4:=Tryz.underlying4
 a4:=Tryz.isAgg4
 z4:=Tryz.sizeOf4
 v4:=Tryz.zeroValue4
 t5:=Tryz.underlying5
 a5:=Tryz.isAgg5
 z5:=Tryz.sizeOf5
 v5:=Tryz.zeroValue5
 t9:=Tryz.underlying9
 a9:=Tryz.isAgg9
 z9:=Tryz.sizeOf9
 v9:=Tryz.zeroValue9
 t22:=Tryz.underlying40
 a22:=Tryz.isAgg40
 z22:=Tryz.sizeOf40
 v22:=Tryz.zeroValue40
 t25:=Tryz.underlying228
 a25:=Tryz.isAgg228
 z25:=Tryz.sizeOf228
 v25:=Tryz.zeroValue228
 t39:=Tryz.underlying199
 a39:=Tryz.isAgg199
 z39:=Tryz.sizeOf199
 v39:=Tryz.zeroValue199
 t45:=Tryz.underlying240
 a45:=Tryz.isAgg240
 z45:=Tryz.sizeOf240
 v45:=Tryz.zeroValue240
 t46:=Tryz.underlying241
 a46:=Tryz.isAgg241
 z46:=Tryz.sizeOf241
 v46:=Tryz.zeroValue241
 t50:=Tryz.underlying192
 a50:=Tryz.isAgg192
 z50:=Tryz.sizeOf192
 v50:=Tryz.zeroValue192
 t53:=Tryz.underlying27
 a53:=Tryz.isAgg27
 z53:=Tryz.sizeOf27
 v53:=Tryz.zeroValue27
 t55:=Tryz.underlying22
 a55:=Tryz.isAgg22
 z55:=Tryz.sizeOf22
 v55:=Tryz.zeroValue22
 t66:=Tryz.underlying247
 a66:=Tryz.isAgg247
 z66:=Tryz.sizeOf247
 v66:=Tryz.zeroValue247
 t70:=Tryz.underlying251
 a70:=Tryz.isAgg251
 z70:=Tryz.sizeOf251
 v70:=Tryz.zeroValue251
 t76:=Tryz.underlying253
 a76:=Tryz.isAgg253
 z76:=Tryz.sizeOf253
 v76:=Tryz.zeroValue253
 t77:=Tryz.underlying254
 a77:=Tryz.isAgg254
 z77:=Tryz.sizeOf254
 v77:=Tryz.zeroValue254 }
def XT:Go.Shelf.Ren:=⟨fun|6=>128|n=>n,fun|22=>40|23=>24|25=>88|3=>3|0=>0|4=>4|n=>n,fun|n=>n⟩
theorem akj:Go.Proofs.SlLaysH0.n6 Tryz.prog XT:= {
 mixed:=by kernel_rfl
 f6:=⟨Tryz.f128.name,by decide,Tryz.func128.trans (congrArg some (by kernel_rfl))⟩
 t0:=Tryz.underlying0
 a0:=Tryz.isAgg0
 z0:=Tryz.sizeOf0
 v0:=Tryz.zeroValue0
 t3:=Tryz.underlying3
 a3:=Tryz.isAgg3
 z3:=Tryz.sizeOf3
 v3:=Tryz.zeroValue3
 t4:=Tryz.underlying4
 a4:=Tryz.isAgg4
 z4:=Tryz.sizeOf4
 v4:=Tryz.zeroValue4
 t22:=Tryz.underlying40
 a22:=Tryz.isAgg40
 z22:=Tryz.sizeOf40
 v22:=Tryz.zeroValue40
 t25:=Tryz.underlying88
 a25:=Tryz.isAgg88
 z25:=Tryz.sizeOf88
 v25:=Tryz.zeroValue88 }
open Go.RowKit Go.Shelf
attribute [local go_sem] Oper.semAt_some
instance (x:Sp):Decidable (fit x):=by unfold fit;infer_instance
abbrev GS:= { x:Sp//fit x/\ good x=true }
def oD(l:List Sp):List GS:=l.filterMap fun x=>if h:fit x/\ good x=true then some ⟨x,h⟩else none
theorem qj(a b:List Sp):oD (a++b)=oD a++oD b:=by simp [oD]
theorem Dc{x:Sp}(h:fit x/\ good x=true):oD [x]=[⟨x,h⟩]:=by simp [oD,h]
theorem Nw{x:Sp}(h:good x=false):oD [x]=[]:=by simp [oD,h]
theorem UH{l:List Sp}(hl:∀x∈l,fit x):(oD l).map (·.1)=l.filter good:=by
 induction l with
 |nil=>rfl
 |cons x r ih=>
  have e:x::r=[x]++r:=rfl;rw [e,qj,List.map_append,List.filter_append,ih (fun y hy=>hl y (by simp [hy]))]
  congr 1
  by_cases h:good x=true
  · rw [Dc ⟨hl x (by simp),h⟩];simp [h]
  · rw [Nw (by simpa using h)];simp [h]
theorem take_snoc{l:List Sp}{k:Nat}(h:k<l.length):l.take (k+1)=l.take k++ [l[k]]:=by simp
theorem Ja(l:List Sp):(oD l).length<=l.length:=List.length_filterMap_le _ _
theorem PS(l:List Sp)(k:Nat):oD (l.take k)<+:oD l:=by
 conv=>rhs;rw [<-List.take_append_drop k l]
 rw [qj];exact List.prefix_append _ _
theorem XU(n:Nat)(hn:1<=n)(lp Bs n₀ cap:Nat)(A:Option Addr)(l:List Sp)(hl:∀x∈l,fit x)(hlen:l.length<=4611686018427387904)(J Jx:List GS->World->Prop)
  (hY:∀pre (x:GS) W,J pre W->pre.length<l.length->YieldAt Fence.wide (n-1) Tryz.prog lp #[spv x.1] W fun e W'=>
    (e= .returned (.bool true)/\ J (pre++ [x]) W'/\ Below n₀ W W')∨(e= .returned (.bool false)/\ Jx (pre++ [x]) W'))
  (W:World) (hA:AbidesFrom W.heap.size J) (hn₀:n₀<=W.heap.size) (hBs:W.cell? ⟨Bs,0,none⟩=some (.slice A l.length cap)) (hc:Row W n₀ A l) (h0:J [] W):
  CallsIn Fence.wide n Tryz.prog 193 #[.func (.yield lp) #[] #[],.pointer (some ⟨Bs,0,none⟩)] W fun e W'=>(∃v,e= .returned v)/\
    ((∃ys,ys=oD l/\ J ys W')∨(∃pre,pre<+:oD l/\ Jx pre W')):=by
 refine callsIn_of_wp Tryz.func193 rfl trivial ?_ rfl;simp only [Tryz.ntmps193,List.size_toArray,List.length_cons,List.length_nil,Nat.reduceAdd,Nat.reduceSub,Array.replicate_succ,Array.replicate_zero,List.push_toArray,List.append_toArray,List.nil_append,List.cons_append]
 gi_wp2
 gi_loopw [7] (fun i wr=>∃k:Nat,k<=l.length/\ i= .int .i64 k/\ J (oD (l.take k)) wr/\ Below n₀ W wr/\ n₀<=wr.heap.size)
  (fun i _=>l.length-(intOf i).toNat)
 case atStart=>exact⟨0,aB _,rfl,by simpa [oD]using h0,aC _ _,hn₀⟩
 case round=>
  obtain⟨k,hk,rfl,hJs,hnx,hsz⟩:=hrel;by_cases hlt:k<l.length
  · obtain⟨a,p,rfl,hp,hpb,hc1,hc2⟩:=(hc.below hnx).at hlt
    have hfit:=hl _ (ay hlt);obtain⟨x,hx⟩:∃x,l[k]=x:=⟨_,rfl⟩;rw [hx]at hc1 hc2 hfit;obtain⟨b,s⟩:=x;have Hx:=ah hfit;have Ht:=ah (take_snoc hlt);have HX:=ah hx;clear hfit hx hpb;have hJ2:J (oD (l.take k)) ((wr.alloc (Df b s)).alloc (Df b s)):=
      hA _ _ _ none (hA _ _ _ none hJs (World.grownBy_alloc _ _ none) (fun r e=>by cases e)) (World.grownBy_alloc _ _ none) (fun r e=>by cases e)
    have hB2:Below n₀ W ((wr.alloc (Df b s)).alloc (Df b s)):=(hnx.alloc hsz _).alloc (by simp;omega) _;have hpl:(oD (l.take k)).length<l.length:=by
      have:=Ja (l.take k);rw [List.length_take]at this;omega
    by_cases hg:good (b,s)=true
    · obtain⟨fn,tmps,assign,body,hy,hR⟩:=hY _ ⟨(b,s),Hx.out,hg⟩ _ hJ2 hpl
      dsimp only at hy
      have HB2:=ah hB2;have HR:=ah hR;clear hJ2 hB2 hpl hR
      gi_wp2_with (refine⟨trivial, ?_⟩;gi_at_call 106;refine(callsIn_wide.2 (lW b s Hx.out _)).mono ?_;rintro e w1 ⟨rfl,rfl⟩)
      refine HR.out.mono ?_;rintro e W3 (⟨rfl,hJ3,hk3⟩|⟨rfl,hJx3⟩)
      · gi_wp2
        go_roundw
        case rel=>exact⟨k+1,by omega,by simp,by rw [Ht.out,HX.out,qj,Dc ⟨Hx.out,hg⟩];exact hJ3,HB2.out.trans hk3,aA (aA hsz (by simp;omega)) hk3.size⟩
        case measure=>simp [intOf];omega
      · gi_wp2
        refine bodyPost_ret (results_none rfl _ _ _) rfl ?_;refine⟨⟨_,rfl⟩,.inr ⟨_, ?_,hJx3⟩⟩;have:=PS l (k+1);rw [Ht.out,HX.out,qj,Dc ⟨Hx.out,hg⟩]at this;exact this
    · have hg':good (b,s)=false:=by simpa using hg
      have HJ2:=ah hJ2;have HB2:=ah hB2;clear hJ2 hB2 hpl hg
      gi_wp2_with (refine⟨trivial, ?_⟩;gi_at_call 106;refine(callsIn_wide.2 (lW b s Hx.out _)).mono ?_;rintro e w1 ⟨rfl,rfl⟩)
      refine⟨fun _ h=>(by cases h), ?_⟩
      gi_wp2
      go_roundw
      case rel=>exact⟨k+1,by omega,by simp,by rw [Ht.out,HX.out,qj,Nw hg',List.append_nil];exact HJ2.out,HB2.out,by simp;omega⟩
      case measure=>simp [intOf];omega
  · obtain rfl:k=l.length:=by omega
    gi_wp2
    go_end0;exact⟨⟨_,rfl⟩,.inl ⟨_,by rw [List.take_length],hJs⟩⟩
theorem aaP(A:Option Addr)(len cap:Nat)(w:World):
  Calls Tryz.prog 182 #[.slice A len cap] w fun e w'=>e= .returned (.func (.func 193) #[] #[.pointer (some ⟨w.heap.size,0,none⟩)])/\ w'=w.alloc (.cells #[.slice A len cap] 40):=by
 go_enter Tryz.func182,Tryz.ntmps182;go_wp2
 go_ret;exact⟨rfl,rfl⟩
theorem PU(n:Nat)(hn:1<=n)(Bs n₀ cap:Nat)(A:Option Addr)(l:List Sp)(hl:∀x∈l,fit x)(hlen:l.length<=4611686018427387904)(w:World)(hBs:Bs<w.heap.size)(hn₀:n₀<=w.heap.size)
  (hc:w.cell? ⟨Bs,0,none⟩=some (.slice A l.length cap)) (hR:Row w n₀ A l):
  SeqStopsK Fence.wide n Tryz.prog 193 #[.pointer (some ⟨Bs,0,none⟩)] (fun x:GS=> #[spv x.1]) (Below n₀) (fun ys=>ys=oD l) (fun pre=>pre<+:oD l) l.length w:=fun lp J Jx W hW hJ _ hY h0=>
 XU n hn lp Bs n₀ cap A l hl hlen J Jx hY W hJ (aA hn₀ hW.size) ((hW.cell (p:=⟨Bs,0,none⟩) hBs).trans hc) (hR.below (hW.mono hn₀)) h0
open Go.RowKit Go.Shelf
attribute [local go_sem] Oper.semAt_some
def cells2(l:List Sp):List Value:=l.flatMap fun x=>[Value.int .u64 (x.1:Int),Value.int .u64 (x.2:Int)]
theorem yR(a b:List Sp):cells2 (a++b)=cells2 a++cells2 b:=by simp [cells2]
theorem yS(l:List Sp):(cells2 l).length=l.length*2:=by
 induction l with
 |nil=>rfl
 |cons x r ih=>
  have e:x::r=[x]++r:=rfl;rw [e,yR,List.length_append,ih];simp [cells2];omega
theorem zJ:∀ (l:List Sp) (j:Nat) (h:j<l.length),(cells2 l)[j*2]?=some (Value.int .u64 (l[j].1:Int))/\ (cells2 l)[j*2+1]?=some (Value.int .u64 (l[j].2:Int))
 | [],j,h=>by cases h
 |x::r,0,_=>⟨rfl,rfl⟩
 |x::r,j+1,h=>by
  have e:cells2 (x::r)=Value.int .u64 (x.1:Int)::Value.int .u64 (x.2:Int)::cells2 r:=rfl;have ih:=zJ r j (by simpa using h);rw [e,show(j+1)*2=j*2+1+1 by omega]
  simpa using ih
def sD(w:World)(base:Nat)(v:Value)(l:List Sp):Prop:=w.ownsRow base 24 2 v l.length (cells2 l)
theorem sD.row{w:World}{base:Nat}{v:Value}{l:List Sp}(h:sD w base v l):∃A c,v= .slice A l.length c/\ Row w w.heap.size A l:=by
 rcases h.2 with⟨rfl,h0⟩|⟨g,cap,cur,rfl,_,hh,hr⟩
 · have:l=[]:=List.eq_nil_of_length_eq_zero h0
   subst this;exact⟨none,0,rfl,Row.nil _ _ _⟩
 · refine⟨_,cap,rfl,fun _=>⟨_,rfl,(Array.getElem?_eq_some_iff.1 hh).1,fun j hj=> ?_⟩⟩
   have g2:=zJ l j hj;obtain⟨q1,e1⟩:=List.getElem?_eq_some_iff.1 g2.1;obtain⟨q2,e2⟩:=List.getElem?_eq_some_iff.1 g2.2;exact⟨(h.cells (g:=g) rfl (j*2) _ (aF q1)).trans (by rw [e1]),(h.cells (g:=g) rfl (j*2+1) _ (aF q2)).trans (by rw [e2])⟩
theorem sD.low{w:World}{base base':Nat}{v:Value}{l:List Sp}(h:sD w base v l)(hb:base'<=base):sD w base' v l:=by
 refine⟨h.1, ?_⟩;rcases h.2 with h2|⟨g,cap,cur,hv,hg,r⟩
 · exact Or.inl h2
 · exact Or.inr ⟨g,cap,cur,hv,aA hb hg,r⟩
theorem sD.below{w w':World}{base:Nat}{v:Value}{l:List Sp}(h:sD w base v l)(hb:Below w.heap.size w w'):sD w' base v l:=by
 refine⟨h.1, ?_⟩;rcases h.2 with h2|⟨g,cap,cur,hv,hg,hh,r⟩
 · exact Or.inl h2
 · exact Or.inr ⟨g,cap,cur,hv,hg,(hb.block g (Array.getElem?_eq_some_iff.1 hh).1).trans hh,r⟩
theorem ahG:(Tryz.prog.info? 24).map (fun i=>(i.zero,i.size,i.bytes))=some (some (.agg #[.int .u64 0,.int .u64 0]),2,16):=by kernel_rfl
theorem cell_two_new(w:World)(a b:Value)(t:TypeId):∀j u,[a,b][j]?=some u->(w.alloc (.cells #[a,b] t)).cell? ((⟨w.heap.size,0,none⟩:Addr).add j)=some u:=by
 intro j u hj
 match j,hj with
 |0,hj=>simp at hj;subst hj;simp [Addr.add]
 |1,hj=>simp at hj;subst hj;simp [Addr.add]
def xM(W:World)(B:Nat)(x:Sp):Prop:=W.heap[B]?=some (Df x.1 x.2)
theorem xM.own(B:Nat)(x:Sp):Own (fun(_:Unit) W=>xM W B x):=fun _ _ _ _ hs hg hrow=>(grownBy_keeps_cells hg hrow hs rfl).trans hs
theorem xM.cell0{W:World}{B:Nat}{x:Sp}(h:xM W B x):W.cell? ⟨B,0,none⟩=some (.int .u64 (x.1:Int)):=by simp [World.cell?,show W.heap[B]?=_ from h]
theorem xM.cell1{W:World}{B:Nat}{x:Sp}(h:xM W B x):W.cell? ⟨B,1,none⟩=some (.int .u64 (x.2:Int)):=by simp [World.cell?,show W.heap[B]?=_ from h]
def vals(l:List GS):List Sp:=l.map (·.1)
theorem vals_snoc(l:List GS)(x:GS):vals (l++ [x])=vals l++ [x.1]:=by simp [vals]
theorem Iu(gf:Nat)(lb:Array Value)(eg:∀args w,(callFunc gf args).run Tryz.prog w= .ok (.enter gf args) w)(G:List GS)(Spp:List GS->Prop)(N n₀:Nat)(hN:N<=1000000)(w0 w:World)(hn:n₀<=w.heap.size)(hw:Below w0.heap.size w0 w)
  (hseq:SeqStopsK Fence.wide 9 Tryz.prog gf lb (fun x:GS=> #[spv x.1]) (Below n₀) (fun ys=>ys=G) Spp N w0):
  Calls Tryz.prog 195 #[.slice none 0 0,.func (.func gf) #[] lb] w fun e W'=>∃v,e= .returned v/\ sD W' w.heap.size v (vals G)/\ Below w.heap.size w W':=by
 obtain⟨i0,hi,hz0,hz1,hz2⟩:=info_parts ahG;refine(callsIn_wide (n:=10)).1 ?_;refine callsIn_of_wp_marks Tryz.func195 rfl trivial ?_ rfl;simp only [Tryz.ntmps195,List.size_toArray,List.length_cons,List.length_nil,Nat.reduceAdd,Nat.reduceSub,Array.replicate_succ,Array.replicate_zero,List.push_toArray,List.append_toArray,List.nil_append,List.cons_append]
 gi_wp2
 have bO:=Boxed.new w 40 (.slice none 0 0);have hB0:Below w.heap.size w (w.alloc (.cells #[.slice none 0 0] 40)):=(aC _ w).alloc (aj _) _;refine wpIn_rangeFunc_ownH rfl (by omega) (gf:=gf) (lb:=lb) rfl trivial eg hseq belowK_t (belowK_b (by simp;omega)) (hw.trans (hB0.mono hw.size)) (fun _=>rfl)
  (fun pre W=>(∃v,Boxed W w.heap.size 40 v/\ W.ownsRow w.heap.size 24 2 v (vals pre).length (cells2 (vals pre))/\ True)/\ Below w.heap.size w W)
  (fun _ _ _=>False)
  (OwnFrom.and (Own.from (holdsRow_own w.heap.size w.heap.size 40 24 2 (fun pre=>(vals pre).length) (fun pre=>cells2 (vals pre)) (fun _ _=>True)) _) (ownFrom_below (aj _) (by simp)))
  (fun _ _ _ _ _ hs _ _=>hs)
  ⟨⟨_,bO,World.ownsRow_nil _ _ _ _,trivial⟩,hB0⟩
  (fun x a' W=>∃Bx,w.heap.size<Bx/\ xM W Bx x.1/\ a'= { tmps:= #[.slice none 0 0,.func (.func gf) #[] lb,.pointer (some ⟨w.heap.size,0,none⟩),undef,.slice none 0 0,.pointer (some ⟨Bx,0,none⟩),.func (.func gf) #[] lb,spv x.1,undef,undef,undef,undef,undef],defers:=[] })
  (fun x a' _ X Y row hs hg hr=>by obtain⟨Bx,h1,h2,h3⟩:=hs;exact⟨Bx,h1,xM.own Bx x.1 () X Y row h2 hg (fun r e=>(hr r e).2),h3⟩)
  ?assign ?body ?done ?stop
 case assign=>
  rintro l pre ⟨⟨b,s⟩,hx⟩ W K ⟨⟨v,bO1,hrow,_⟩,hB1⟩ hK
  gi_wp2
  exact hK _ _ ((KeepsOthers.alloc _ _).from _) ((aC n₀ W).alloc (aA hn hB1.size) _) ⟨⟨v,bO1.alloc _,hrow.alloc _,trivial⟩,hB1.alloc hB1.size _⟩ ⟨W.heap.size,bO1.lt,World.alloc_heap_new W _,rfl⟩
 case body=>
  rintro l pre ⟨⟨b,s⟩,hx⟩ a' W hl ⟨r,hr⟩ ⟨⟨v,hv,hrow,_⟩,hB⟩ ⟨Bx,hBx,bX,rfl⟩ hlt;have hc:=hv.cell;have c0:=bX.cell0;have c1:=bX.cell1;have hb3:(vals pre).length+1<=1000000:=(by simp [vals];omega);have hu:∀u∈ [Value.int .u64 (b:Int),Value.int .u64 (s:Int)],u.oneCell'=true:=by intro u h;simp at h;rcases h with rfl|rfl<;>rfl
  have hun:=Tryz.underlying40
  gi_wp2_with (gi_at_builtin;refine wpListIn_append_own _ rfl _ _ 40 rfl w.heap.size 24 i0 (.agg #[.int .u64 0,.int .u64 0]) 2 16 hun hi hz0 hz1 hz2 rfl (by decide) _ _ _ rfl (hrow.alloc _) ⟨W.heap.size,0,none⟩ 1 1 [.int .u64 (b:Int),.int .u64 (s:Int)] rfl rfl (cell_two_new _ _ _ _) hu (by unfold maxLen;omega) (by omega) (by have:=hB.size;simp;omega) ?_;intro v' w1 hown' hgrow _;obtain⟨g',cap',rfl⟩:=ownsRow_succ hown';obtain⟨hv1,hv2,hr2,hk2,hb2⟩:=hv.appended (by decide) hrow hB.size (aj _) hown' hgrow;have hc1:=hv1.cell;have hf1:=hv1.frozen)
  exact⟨hk2.from _,hb2.mono hn,⟨_,hv2,(by have e:=yR (vals pre) [(b,s)];rw [vals_snoc,e,List.length_append];exact hr2)⟩,hB.trans hb2⟩
 case done=>
  rintro D ys W hD rfl ⟨⟨v,hv,hrow,_⟩,hB⟩ hK;have hc:=hv.cell
  gi_wp2
  refine⟨by simp,.inl ⟨_,_,rfl,run_takeDeferred hK, ?_⟩⟩;exact⟨_,results_tmp rfl _ _ _,v,rfl,ownsRow_putObj hrow _ hK rfl,hB.trans (belowK_b (w:=w) (aj _) W D _ _ (by simp at hD;omega) hK rfl rfl)⟩
 case stop=>
  rintro D c pre W _ _ h _;exact h.elim
theorem Ny(gf:Nat)(lb:Array Value)(eg:∀args w,(callFunc gf args).run Tryz.prog w= .ok (.enter gf args) w)(G:List GS)(Spp:List GS->Prop)(N n₀:Nat)(hN:N<=1000000)(w:World)(hn:n₀<=w.heap.size)
  (hseq:SeqStopsK Fence.wide 9 Tryz.prog gf lb (fun x:GS=> #[spv x.1]) (Below n₀) (fun ys=>ys=G) Spp N w):
  Calls Tryz.prog 191 #[.func (.func gf) #[] lb] w fun e W'=>∃v,e= .returned v/\ sD W' w.heap.size v (vals G)/\ Below w.heap.size w W':=by
 have hcon:=ah (Iu gf lb eg G Spp N n₀ hN w w hn (aC _ _) hseq);clear hseq;go_enter Tryz.func191,Tryz.ntmps191;go_wp2_with(go_at_call 195;go_loud (refine hcon.out.mono ?_;rintro e w1 ⟨v,rfl,h1,h2⟩))
 go_ret;exact⟨v,rfl,h1,h2⟩
open Go.RowKit Go.Shelf Go.Lib Go.Sort Go.Proofs
theorem UJ(x:Int)(w:World):Calls Tryz.prog 186 #[.int .u64 x] w fun e w'=>e= .returned (.bool false)/\ w'=w:=by
 go_enter Tryz.func186,Tryz.ntmps186;go_wp2
 go_ret;exact⟨by simp,rfl⟩
def AV(x y:Int):Int:=if x<y then-1 else if y<x then 1 else 0
theorem Nz(x y:Int)(w:World):Calls Tryz.prog 167 #[.int .u64 x,.int .u64 y] w fun e w'=>e= .returned (.int .i64 (AV x y))/\ w'=w:=by
 go_enter Tryz.func167,Tryz.ntmps167;go_wp2_with(go_at_call 186;refine(UJ _ _).mono ?_;rintro e w' ⟨rfl,rfl⟩)
 all_goals (go_ret;refine⟨?_,rfl⟩;unfold AV;(repeat' split)<;>first|rfl|(exfalso;omega))
abbrev enc2(x:Sp):List Value:=[.int .u64 (x.1:Int),.int .u64 (x.2:Int)]
theorem PX(x y:Sp)(W:World):Calls Tryz.prog 183 #[spv x,spv y] W fun e w'=>e= .returned (.int .i64 (AV x.1 y.1))/\ ∃q os',w'=grow (W.drewN q) os':=by
 have hcon:=fun W'=>Nz x.1 y.1 W'
 generalize AV x.1 y.1=r at hcon⊢
 have akk:=ah hcon;clear hcon;go_enter Tryz.func183,Tryz.ntmps183;go_wp2_with(go_at_call 167;refine(akk.out _).mono ?_;rintro e w' ⟨rfl,rfl⟩)
 go_ret;exact⟨rfl,0,_,by rw [alloc_eq_grow,alloc_eq_grow,grow_grow];rfl⟩
theorem JY(x y:Sp):ltOf (fun x y:Sp=>AV x.1 y.1) x y=decide (x.1<y.1):=by
 unfold ltOf AV;by_cases h1:(x.1:Int)<y.1
 · have:x.1<y.1:=by omega
   simp [this]
 · have:¬x.1<y.1:=by omega
   by_cases h2:y.1<x.1<;>simp [this,h2]
theorem aaQ:SWO (ltOf fun x y:Sp=>AV x.1 y.1) where
 irrefl x:=by rw [JY];simp
 trans x y z h1 h2:=by rw [JY]at*;simp at*;omega
 ntrans x y z h1 h2:=by rw [JY]at*;simp at*;omega
theorem FQ(l:List Sp):(flatK enc2 2 l.toArray).toList=cells2 l:=by
 apply List.ext_getElem?
 intro j;by_cases hj:j<l.length*2
 · have h1:j/2<l.length:=by omega
   have g:=zJ l (j/2) h1;have e:(flatK enc2 2 l.toArray).toList[j]?=some (enc2 l[j/2])[j% 2]!:=by
     have:=get_flatK enc2 2 l.toArray j (by simpa using hj);rw [Array.getElem?_toList,Array.getElem?_eq_getElem (by simpa using hj), <-getElem!_pos (flatK enc2 2 l.toArray) j (by simpa using hj),this];simp [h1]
   rw [e];rcases Nat.mod_two_eq_zero_or_one j with h|h
   · have e3:j/2*2=j:=by omega
     rw [h];rw [e3]at g;exact g.1.symm
   · have e3:j/2*2+1=j:=by omega
     rw [h];rw [e3]at g;exact g.2.symm
 · rw [List.getElem?_eq_none (by simpa using hj),List.getElem?_eq_none (by rw [yS];omega)]
theorem PY{w:World}{g:Nat}{cur:Array Value}{l:List Sp}(hb:w.heap[g]?=some (.cells cur 24 (0,0)))(ht:cur.toList.take (l.length*2)=cells2 l):HoldsK enc2 2 w g 0 l.toArray:=by
 intro j hj;have hj':j<l.length*2:=(by simpa using hj);refine⟨?_,by simp [World.frozen?,hb]⟩;have h1:(cur.toList.take (l.length*2))[j]?=(flatK enc2 2 l.toArray).toList[j]?:=(by rw [ht,FQ]);rw [List.getElem?_take_of_lt hj']at h1;simp only [World.cell?,hb,Nat.zero_add];simp only [Option.isSome_none,Bool.false_eq_true,if_false];rw [<-Array.getElem?_toList,h1,Array.getElem?_toList,Array.getElem?_eq_getElem hj, <-getElem!_pos (flatK enc2 2 l.toArray) j hj]
 rfl
theorem UK{w:World}{g n:Nat}{os:Array Obj}{cur:Array Value}{e:TypeId}{fr:Nat × Nat}(F:Array Value)(hb:w.heap[g]?=some (.cells cur e fr)):
  (grow (putRow id (Sort.ahead w n) g 0 F) os).heap[g]?=some (.cells (putCells id 0 F cur) e fr):=by
 have hg:g<w.heap.size:=(Array.getElem?_eq_some_iff.1 hb).1;rw [heap_grow_old _ _ (by simpa using hg)];simp [putRow,mapBlock,Sort.ahead,Array.getElem?_modify,hb,onCells]
theorem UL(cur F:Array Value)(h:F.size<=cur.size):(putCells id 0 F cur).toList.take F.size=F.toList:=by
 apply List.ext_getElem?
 intro j;by_cases hj:j<F.size
 · rw [List.getElem?_take_of_lt hj,Array.getElem?_toList]
   simp [putCells,hj,show j<cur.size by omega]
 · rw [List.getElem?_take_eq_none (by omega),List.getElem?_eq_none (by simp;omega)]
theorem PZ{w:World}{g n B:Nat}{os:Array Obj}(F:Array Value)(hB:B<=g)(hBw:B<=w.heap.size):Below B w (grow (putRow id (Sort.ahead w n) g 0 F) os):=by
 refine⟨rfl,rfl,rfl,by simp,fun k hk=> ?_⟩;rw [heap_grow_old _ _ (by simp;omega)];have:g≠k:=(by omega);simp [putRow,mapBlock,Sort.ahead,Array.getElem?_modify,this]
def zK(l r:List Sp):Prop:=r.Perm l/\ r.Pairwise fun x y=>x.1<=y.1
theorem UM{d d':Array Sp}(hp:PermIn 0 d.size d d')(hs:SortedIn (ltOf fun x y:Sp=>AV x.1 y.1) 0 d.size d'):zK d.toList d'.toList:=by
 obtain⟨h1,_,h3⟩:=hp;refine⟨?_, ?_⟩
 · have e1:(d'.extract 0 d.size).toList=d'.toList:=by rw [<-h1];simp
   have e2:(d.extract 0 d.size).toList=d.toList:=by simp
   rwa [e1,e2]at h3
 · rw [List.pairwise_iff_getElem]
   intro i j hi hj hij;have:=hs i j (aB _) hij (by rw [<-h1];simpa using hj);rw [JY,getElem!_pos d' i (by simpa using hi),getElem!_pos d' j (by simpa using hj)]at this;simp at this
   simpa using this
theorem JZ(l:List Sp)(base:Nat)(v:Value)(hlen:l.length<=1000000)(w:World)(hbw:base<=w.heap.size)(hv:sD w base v l):
   Calls Tryz.prog 192 #[v,.func (.func 183) #[] #[]] w fun e w'=>e= .returned (.tuple #[])/\ ∃r,zK l r/\ sD w' base v r/\ Below base w w':=by
 rcases hv.2 with⟨rfl,h0⟩|⟨g,cap,cur,rfl,hbase,hh,hle,hcap,hsz,ht⟩
 · obtain rfl:l=[]:=List.eq_nil_of_length_eq_zero h0
   refine(AnyF.slices_SortFunc_none ahF none 0 (.func (.func 183) #[] #[]) w).mono ?_;rintro e w' ⟨rfl,rfl⟩;exact⟨rfl,[],⟨List.Perm.refl _,List.Pairwise.nil⟩,hv,aC _ _⟩
 · have eg:∀args w,(callFunc 183 args).run Tryz.prog w= .ok (.enter 183 args) w:=enters_of Tryz.func183 (by kernel_rfl) rfl
   have hH:=PY (l:=l) hh ht;have hcon:=AnyQ.slices_SortFunc ahF 2 Tryz.isAgg24 Tryz.sizeOf24 enc2 (fun _=>rfl) (fun x v hv=>by simp at hv;rcases hv with rfl|rfl<;>rfl) (fun x y=>AV x.1 y.1) aaQ 183 #[] g 0 cap l.toArray w eg
    (fun _ _ _ _ x y=>PX x y _) hH ((Array.getElem?_eq_some_iff.1 hh).1) (by simp;omega)
   refine hcon.mono ?_;rintro e w' ⟨rfl,d',n,os,hp,hs,rfl⟩;have hR:=UM hp hs;have hl:d'.toList.length=l.length:=(by have:=hp.1;simpa using this);refine⟨rfl,d'.toList,hR, ?_,PZ _ hbase hbw⟩;refine⟨by rw [yS],.inr ⟨g,cap,_,by rw [hl],hbase,UK _ hh,by omega,hcap,by simp [putCells,hsz], ?_⟩⟩;have hF:(flatK enc2 2 d').size=d'.toList.length*2:=(by simp);rw [<-hF,UL _ _ (by rw [hF,hsz];omega)];have:=FQ d'.toList
   simpa using this
theorem FT(gf:Nat)(lb:Array Value)(L:List Sp)(hlen:L.length<=1000000)(w:World)
  (XV:Calls Tryz.prog 191 #[.func (.func gf) #[] lb] w fun e W'=>∃v,e= .returned v/\ sD W' w.heap.size v L/\ Below w.heap.size w W'):
  Calls Tryz.prog 181 #[.func (.func gf) #[] lb,.func (.func 183) #[] #[]] w fun e w'=>∃v r,e= .returned v/\ zK L r/\ sD w' w.heap.size v r/\ Below w.heap.size w w':=by
 have Hc:=ah XV;have Hl:=ah hlen;clear XV hlen;go_enter Tryz.func181,Tryz.ntmps181;go_wp2_with(first
  |(go_at_call 191;refine Hc.out.mono ?_;rintro e w1 ⟨v,rfl,ho,hb⟩;have Ho:=ah ho;have Hb:=ah hb;clear ho hb)
  |(go_at_call 192;refine(JZ L _ v Hl.out w1 Hb.out.size Ho.out).mono ?_;rintro e w2 ⟨rfl,r,hr,ho,hb⟩))
 go_ret;exact⟨v,r,rfl,hr,ho,Hb.out.trans hb⟩
theorem XW{l:List Sp}(hlen:l.length<=100000):(vals (oD l)).length<=1000000:=by
 have:=Ja l;simp [vals];omega
theorem P5(A:Option Addr)(cap:Nat)(l:List Sp)(hl:∀x∈l,fit x)(hlen:l.length<=100000)(w:World)(hR:Row w w.heap.size A l):
   Calls Tryz.prog 162 #[.slice A l.length cap] w fun e w'=>∃v r,e= .returned v/\ zK (l.filter good) r/\ sD w' w.heap.size v r/\ Below w.heap.size w w':=by
 have eg:∀args w,(callFunc 193 args).run Tryz.prog w= .ok (.enter 193 args) w:=enters_of Tryz.func193 (by kernel_rfl) rfl;obtain⟨w1,hw1⟩:=aqx (w.alloc (.cells #[.slice A l.length cap] 40));have hb1:Below w.heap.size w w1:=(by rw [hw1];exact(aC _ w).alloc (aj _) _);have hs1:w1.heap.size=w.heap.size+1:=(by rw [hw1];simp);have hc1:w1.cell? ⟨w.heap.size,0,none⟩=some (.slice A l.length cap):=(by rw [hw1];simp);have hstop:=PU 9 (by decide) w.heap.size w1.heap.size cap A l hl (by omega) w1 (by omega) (aj _) hc1 ((hR.below hb1).wide (by omega));have XV:=Ny 193 #[.pointer (some ⟨w.heap.size,0,none⟩)] eg (oD l) _ l.length w1.heap.size (by omega) w1 (aj _) hstop;have Hso:=ah (FT _ _ _ (XW hlen) w1 XV);have akl:=ah (UH hl);have HB:=ah hb1;have HS:=ah hs1;have HW:=ah hw1;clear eg hstop XV hb1 hs1 hc1 hR hl hlen hw1;go_enter Tryz.func162,Tryz.ntmps162;go_wp2_with(first
   |(go_at_call 182;refine(aaP _ _ _ _).mono ?_;rintro e w2 ⟨rfl,hw⟩;obtain rfl:=hw.trans HW.out.symm;clear hw)
   |(go_at_call 181;refine Hso.out.mono ?_;rintro e w3 ⟨v,r,rfl,hr,ho,hb⟩))
 go_ret;refine⟨v,r,rfl, ?_, ?_, ?_⟩
 · have:=akl.out
   unfold vals at hr
   rwa [this]at hr
 · exact sD.low ho (by rw [HS.out];omega)
 · exact HB.out.trans (hb.mono HB.out.size)
end Go.Proofs.YtkaipknkjocfiaaGreat
