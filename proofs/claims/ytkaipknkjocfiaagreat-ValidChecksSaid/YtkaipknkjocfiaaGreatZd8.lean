import Derived.Sort.LotA
import Derived.Sort.LotD2
import Derived.Shelf.SlSortCmp.KitK
import Derived.Sort.WalkB2
import Derived.Sort.WalkB12
import Derived.Deep.LoopGhost
import Derived.Test.YtkaipknkjocfiaaGreatZd7
import Derived.Test.YtkaipknkjocfiaaGreatProg
set_option maxRecDepth 100000
set_option maxHeartbeats 64000000
namespace Go.Proofs.YtkaipknkjocfiaaGreat
open Go.RowKit Go.Maps
attribute [local go_sem ↓ high] jo oU zq
theorem BQ(x y:Sp)(w:World):(Instr.buildSlice 40 2 #[(0,.agg (vec 2 (bQ x))),(1,.agg (vec 2 (bQ y)))]).run Tryz.prog w= .ok (.slice (some ⟨w.heap.size,0,none⟩) 2 2) (w.alloc (.cells (cellsE 2 bQ [x,y]).toArray 24)):=by
 obtain⟨i0,hi,hz0,hz1,hz2⟩:=info_parts qH;refine run_buildSlice (P:=Tryz.prog) w 40 24 2 _ _ i0 (.agg (vec 2 (bQ (0,0)))) Tryz.underlying40 hi hz0 (by rw [hz1];decide) (by rw [hz1];decide) ?_;rw [hz1]
 kernel_rfl
theorem yg{o:Oper}{a:Act}{w w':World}{K:Act->World->Prop}{Q:Exit->Act->World->Prop}(t:TypeId)(x y:Operand)(ho:o.op= .buildSlice t 2 #[(0,x),(1,y)])(v0 v1:Value)(hx:a.eval x=v0)(hy:a.eval y=v1){v:Value}
  (hr:(Instr.buildSlice t 2 #[(0,v0),(1,v1)]).run Tryz.prog w= .ok v w') (h:K (a.put o.dst v) w'):Oper.wp Tryz.prog o a w K Q:=by
 subst hx hy;unfold Oper.wp execOp;simp only [ho,Sem.run_bind,List.map_toArray,List.map_cons,List.map_nil,hr,Result.andThen_ok,Sem.run_pure];exact h
theorem eF{o:Oper}{a:Act}{w w':World}{K:Act->World->Prop}{Q:Exit->Act->World->Prop}(t:TypeId)(x:Operand)(ho:o.op= .buildSlice t 1 #[(0,x)])(v0:Value)(hx:a.eval x=v0){v:Value}
  (hr:(Instr.buildSlice t 1 #[(0,v0)]).run Tryz.prog w= .ok v w') (h:K (a.put o.dst v) w'):Oper.wp Tryz.prog o a w K Q:=by
 subst hx;unfold Oper.wp execOp;simp only [ho,Sem.run_bind,List.map_toArray,List.map_cons,List.map_nil,hr,Result.andThen_ok,Sem.run_pure];exact h
theorem OJ{α:Type}{n:Nat}{enc:α->Nat->Value}(l:List α)(c:Array Value)(t:TypeId)(w:World)(hc:∀j (hj:j<l.length) i,i<n->c[j*n+i]?=some (enc l[j] i)):bI n enc (w.alloc (.cells c t)) (w.alloc (.cells c t)).heap.size (some ⟨w.heap.size,0,none⟩) l:=fun _=>
 ⟨_,rfl,by simp,fun j hj i hi=>by rw [lF,Nat.zero_add];exact(cell_of_row _ _ _ _ _ _ (heap_alloc_new w _)).trans (hc j hj i hi)⟩
theorem xX(x y:Sp)(w:World):bI 2 bQ (w.alloc (.cells (cellsE 2 bQ [x,y]).toArray 24)) (w.alloc (.cells (cellsE 2 bQ [x,y]).toArray 24)).heap.size (some ⟨w.heap.size,0,none⟩) [x,y]:=OJ _ _ _ _ fun j hj i hi=>by
 have hj:j<2:=hj;rcases(by omega:j=0∨j=1)with rfl|rfl<;>rcases(by omega:i=0∨i=1)with rfl|rfl<;>rfl
theorem xH(x:Sp)(w:World):bI 2 bQ (w.alloc (.cells (vec 2 (bQ x)) 24)) (w.alloc (.cells (vec 2 (bQ x)) 24)).heap.size (some ⟨w.heap.size,0,none⟩) [x]:=OJ _ _ _ _ fun j hj i hi=>by
 have hj:j<1:=hj;obtain rfl:j=0:=by omega
 rcases(by omega:i=0∨i=1)with rfl|rfl<;>rfl
theorem NP(p:Nat)(b:Bd)(y:Wi)(hy:KW y)(hr:fit b.r)(hl:fit b.l)(w:World)(h:KB w p b):Calls Tryz.prog 42 #[.pointer (some ⟨p,0,none⟩),.agg (vec 4 (bG y))] w (jc (Zz b y) w):=by
 obtain⟨z1,hz1⟩:=aqx (DF [qo y,xg y]);obtain⟨z2,hz2⟩:=aqx (!(y.perm==0));obtain⟨z3,hz3⟩:=aqx (yO b (xg y));have e:Zz b y=(z1&&(z2&&z3)):=(by unfold Zz;rw [<-hz1, <-hz2, <-hz3]);rw [e];obtain⟨q1,hq1⟩:=aqx (qo y);obtain⟨q2,hq2⟩:=aqx (xg y);obtain⟨P,hP⟩:=aqx (y.perm);have Ii:=KL hy;obtain⟨pn,hpn⟩:=au hy.2.1.1;obtain⟨sn,hsn⟩:=au hy.2.2.1.1;have hqs:q2=(pn,sn):=(by rw [hq2];unfold xg;rw [hpn,hsn];rfl);rw [<-hq1, <-hq2]at Ii hz1;rw [<-hq2]at hz3;rw [<-hP]at hz2;have Ec:Hid (∀W,Calls Tryz.prog 79 #[.agg (vec 4 (bG y))] W fun e w'=>e= .returned (.agg (vec 2 (bQ q1)))/\ Below W.heap.size W w'):=ah (by rw [hq1];exact fun W=>DI y hy W);have Ak:Hid (∀A W,bI 2 bQ W W.heap.size A [q1,q2]->Calls Tryz.prog 78 #[.slice A 2 2] W (jc z1 W)):=ah (by
  rw [hz1];exact fun A W hR=>Ib A 2 [q1,q2] (by simp) (fun x hx=>by
   rcases List.mem_cons.1 hx with rfl|hx
   · exact Ii.1
   · rw [List.mem_singleton.1 hx];exact Ii.2) W hR)
 have HOURS:Hid (∀W,KB W p b->Calls Tryz.prog 80 #[.pointer (some ⟨p,0,none⟩),.agg (vec 2 (bQ q2))] W (jc z3 W)):=ah (by rw [hz3];exact fun W hW=>IV p b q2 Ii.2 hr hl W hW);unfold jc at Ak HOURS⊢;obtain⟨r3,hr3⟩:=aqx (w.heap.size);obtain⟨r5,EJ⟩:=aqx (w.heap.size+1);obtain⟨W1,hW1⟩:=aqx (w.alloc (.cells (vec 4 (bG y)) 67));have hb1:Below w.heap.size w W1:=(by rw [hW1];exact Below.aY w _);have ha1:aU W1 r3 67 4 (bG y):=(by rw [hW1,hr3];exact aU.new _ _ _ _);have hs1:W1.heap.size=r5:=(by rw [hW1,EJ];simp);obtain⟨V,hV⟩:=aqx ((W1.alloc (.cells (vec 2 (bQ (0,0))) 24)).setRow W1.heap.size (vec 2 (bQ q2)));have hb2:Below W1.heap.size W1 V:=(by rw [hV];exact bg ((aC _ _).alloc (aj _) _) (aj _) _);have HA:Hid (aU V r3 67 4 (bG y)):=ah (ha1.under hb2);have D6:Hid (aU V r5 24 2 (bQ q2)):=ah (by rw [hV, <-hs1];exact(aU.new W1 _ _ _).row _);have HK:=ah ((h.under hb1).under hb2);have HB:=ah (hb1.trans (hb2.mono hb1.size));have c1:W1.cell? ⟨r3,1,none⟩=some (.int .u64 (pn:Int)):=(by rw [<-hpn];exact ha1.cell (i:=1) (by decide));have c2:W1.cell? ⟨r3,2,none⟩=some (.int .u64 (sn:Int)):=(by rw [<-hsn];exact ha1.cell (i:=2) (by decide));have gI:Hid (∀Y,Below V.heap.size V Y->Y.cell? ⟨r3,3,none⟩=some (.int .i64 P)):=ah fun Y hY=>by rw [hP];exact(HA.out.under hY).cell (i:=3) (by decide)
 have hpz:(P !=0)=z2:=(by rw [hz2];rfl);have HV:=ah hV;have HW1:=ah hW1;have HR3:=ah hr3;have uq:=ah hs1;rw [hqs]at HV;have HQS:=ah hqs;clear hz1 hz2 hz3 e hq1 hq2 hP Ii hpn hsn hy hr hl h hb1 hb2 ha1 hs1 hV hW1 hr3 EJ hqs;go_enter Tryz.func42,Tryz.ntmps42;go_upto_region 1 with fail
 rw [<-HW1.out, <-HR3.out];clear HW1 HR3;go_upto_region 2 with(first
  |((with_reducible refine aqy (.build _ _) ?_);refine dh rfl 24 _ rfl (vec 2 (bQ (pn,sn))) (by kernel_rfl) ?_)
  |((with_reducible refine aqy (.store _ _ _) ?_);refine bD rfl 24 _ _ rfl _ rfl _ rfl (aS (aU.new W1 _ _ _) (bQ (pn,sn)) bZ (kP _ _)) ?_))
 rw [<-HV.out,uq.out];clear HV uq c1 c2;cases z1
 case false=>
  refine wp_region_held_drew (S:=fun Y=>Below V.heap.size V Y) (by kernel_rfl) (show Below V.heap.size V V.drew from below_drewN (aC _ _) 1) (fun hS=> ?_);obtain⟨Y0,hY0⟩:=aqx (V.drew);rw [<-hY0]at hS⊢;clear hY0;refine tP 0 (v:= .agg (vec 4 (bG y))) (hy:=by(intro W hW;exact bF 67 _ rfl r3 rfl _ (aQ (HA.out.under hW) Tryz.underlying67 rfl gQ))) ?_;refine tP 2 (v:= .agg (vec 2 (bQ q2))) (hy:=by(intro W hW;exact bF 24 _ rfl r5 rfl _ (aQ (D6.out.under hW) Tryz.underlying24 rfl bZ))) ?_;refine oQ 1 fun K1 hK1=> ?_;go_simp;refine(Ec.out _).mono ?_;rintro e y1 ⟨rfl,hd⟩;refine hK1 _ _ (Below.trans hS (hd.mono (Below.size hS))) (fun hS1=> ?_);clear hS hd hK1 K1;refine oQ 3 fun K3 hK3=> ?_;refine yg 40 _ _ rfl (.agg (vec 2 (bQ q1))) (.agg (vec 2 (bQ q2))) rfl rfl (BQ q1 q2 y1) ?_;obtain⟨y3,hy3⟩:=aqx (y1.alloc (.cells ((cellsE 2 bQ [q1,q2]).toArray) 24));have hd:Below y1.heap.size y1 y3:=(by rw [hy3];exact Below.aY _ _);have HR3:Hid (bI 2 bQ y3 y3.heap.size (some ⟨y1.heap.size,0,none⟩) [q1,q2]):=ah (by rw [hy3];exact xX _ _ _);rw [<-hy3];refine hK3 _ _ (Below.trans hS1 (hd.mono (Below.size hS1))) (fun hS3=> ?_);clear hS1 hd hy3 hK3 K3;refine oQ 4 fun K4 hK4=> ?_;go_simp;refine(Ak.out _ _ HR3.out).mono ?_;rintro e y4 ⟨rfl,hd⟩;refine hK4 _ _ (Below.trans hS3 (hd.mono (Below.size hS3))) (fun hS4=> ?_);clear hS3 hd hK4 K4;refine tP 5 ?_;refine sQ 6 ?_;refine sQ 7 ?_;refine sQ 8 ?_;refine tP 9 ?_;refine tP 10 ?_;refine sQ 11 ?_;refine sQ 12 ?_;refine sQ 13 ?_;refine tP 14 ?_;refine tP 15 ?_;refine wpAnyH_done (by kernel_rfl) ?_ _;go_wp2_with fail
  go_ret;exact⟨rfl,HB.out.trans (hS4.mono HB.out.size)⟩
 case true=>
  cases z2
  case false=>
   refine wp_region_held_drew (S:=fun Y=>Below V.heap.size V Y) (by kernel_rfl) (show Below V.heap.size V V.drew from below_drewN (aC _ _) 1) (fun hS=> ?_);obtain⟨Y0,hY0⟩:=aqx (V.drew);rw [<-hY0]at hS⊢;clear hY0;refine tP 0 (v:= .agg (vec 4 (bG y))) (hy:=by(intro W hW;exact bF 67 _ rfl r3 rfl _ (aQ (HA.out.under hW) Tryz.underlying67 rfl gQ))) ?_;refine tP 2 (v:= .agg (vec 2 (bQ q2))) (hy:=by(intro W hW;exact bF 24 _ rfl r5 rfl _ (aQ (D6.out.under hW) Tryz.underlying24 rfl bZ))) ?_;refine oQ 1 fun K1 hK1=> ?_;go_simp;refine(Ec.out _).mono ?_;rintro e y1 ⟨rfl,hd⟩;refine hK1 _ _ (Below.trans hS (hd.mono (Below.size hS))) (fun hS1=> ?_);clear hS hd hK1 K1;refine oQ 3 fun K3 hK3=> ?_;refine yg 40 _ _ rfl (.agg (vec 2 (bQ q1))) (.agg (vec 2 (bQ q2))) rfl rfl (BQ q1 q2 y1) ?_;obtain⟨y3,hy3⟩:=aqx (y1.alloc (.cells ((cellsE 2 bQ [q1,q2]).toArray) 24));have hd:Below y1.heap.size y1 y3:=(by rw [hy3];exact Below.aY _ _);have HR3:Hid (bI 2 bQ y3 y3.heap.size (some ⟨y1.heap.size,0,none⟩) [q1,q2]):=ah (by rw [hy3];exact xX _ _ _);rw [<-hy3];refine hK3 _ _ (Below.trans hS1 (hd.mono (Below.size hS1))) (fun hS3=> ?_);clear hS1 hd hy3 hK3 K3;refine oQ 4 fun K4 hK4=> ?_;go_simp;refine(Ak.out _ _ HR3.out).mono ?_;rintro e y4 ⟨rfl,hd⟩;refine hK4 _ _ (Below.trans hS3 (hd.mono (Below.size hS3))) (fun hS4=> ?_);clear hS3 hd hK4 K4;refine tP 5 ?_;refine tP 6 ?_;refine tP 7 (hy:=by(intro W hW;obtain⟨z0,z1⟩:=ak (gI.out W hW) True.intro;clear hW;go_split_ands;go_simp;(try with_reducible rfl))) ?_;refine tP 8 ?_;refine tP 9 ?_;refine tP 10 ?_;refine sQ 11 ?_;refine sQ 12 ?_;refine sQ 13 ?_;refine tP 14 ?_;refine tP 15 ?_;refine wpAnyH_done (by kernel_rfl) ?_ _;go_wp2_with fail
   go_ret;exact⟨rfl,HB.out.trans (hS4.mono HB.out.size)⟩
  case true=>
   refine wp_region_held_drew (S:=fun Y=>Below V.heap.size V Y) (by kernel_rfl) (show Below V.heap.size V V.drew from below_drewN (aC _ _) 1) (fun hS=> ?_);obtain⟨Y0,hY0⟩:=aqx (V.drew);rw [<-hY0]at hS⊢;clear hY0;refine tP 0 (v:= .agg (vec 4 (bG y))) (hy:=by(intro W hW;exact bF 67 _ rfl r3 rfl _ (aQ (HA.out.under hW) Tryz.underlying67 rfl gQ))) ?_;refine tP 2 (v:= .agg (vec 2 (bQ q2))) (hy:=by(intro W hW;exact bF 24 _ rfl r5 rfl _ (aQ (D6.out.under hW) Tryz.underlying24 rfl bZ))) ?_;refine oQ 1 fun K1 hK1=> ?_;go_simp;refine(Ec.out _).mono ?_;rintro e y1 ⟨rfl,hd⟩;refine hK1 _ _ (Below.trans hS (hd.mono (Below.size hS))) (fun hS1=> ?_);clear hS hd hK1 K1;refine oQ 3 fun K3 hK3=> ?_;refine yg 40 _ _ rfl (.agg (vec 2 (bQ q1))) (.agg (vec 2 (bQ q2))) rfl rfl (BQ q1 q2 y1) ?_;obtain⟨y3,hy3⟩:=aqx (y1.alloc (.cells ((cellsE 2 bQ [q1,q2]).toArray) 24));have hd:Below y1.heap.size y1 y3:=(by rw [hy3];exact Below.aY _ _);have HR3:Hid (bI 2 bQ y3 y3.heap.size (some ⟨y1.heap.size,0,none⟩) [q1,q2]):=ah (by rw [hy3];exact xX _ _ _);rw [<-hy3];refine hK3 _ _ (Below.trans hS1 (hd.mono (Below.size hS1))) (fun hS3=> ?_);clear hS1 hd hy3 hK3 K3;refine oQ 4 fun K4 hK4=> ?_;go_simp;refine(Ak.out _ _ HR3.out).mono ?_;rintro e y4 ⟨rfl,hd⟩;refine hK4 _ _ (Below.trans hS3 (hd.mono (Below.size hS3))) (fun hS4=> ?_);clear hS3 hd hK4 K4;refine tP 5 ?_;refine tP 6 ?_;refine tP 7 (hy:=by(intro W hW;obtain⟨z0,z1⟩:=ak (gI.out W hW) True.intro;clear hW;go_split_ands;go_simp;(try with_reducible rfl))) ?_;refine tP 8 ?_;refine tP 9 ?_;refine tP 10 ?_;refine tP 11 ?_;refine tP 12 (v:= .agg (vec 2 (bQ q2))) (hy:=by(intro W hW;exact bF 24 _ rfl r5 rfl _ (aQ (D6.out.under hW) Tryz.underlying24 rfl bZ))) ?_;refine oQ 13 fun wV jm=> ?_;go_simp;refine(HOURS.out _ (HK.out.under hS4)).mono ?_;rintro e y13 ⟨rfl,hd⟩;refine jm _ _ (Below.trans hS4 (hd.mono (Below.size hS4))) (fun lu=> ?_);clear hS4 hd jm wV;refine tP 14 ?_;refine tP 15 ?_;refine wpAnyH_done (by kernel_rfl) ?_ _;go_wp2_with fail
   go_ret;exact⟨rfl,HB.out.trans (lu.mono HB.out.size)⟩
theorem NQ(p:Nat)(b:Bd)(y:De)(hy:W9 y)(hr:fit b.r)(w:World)(h:KB w p b):Calls Tryz.prog 44 #[.pointer (some ⟨p,0,none⟩),.agg (vec 3 (iC y))] w (jc (ZA b y) w):=by
 obtain⟨z1,hz1⟩:=aqx (DF [H6 y,BU y]);obtain⟨z2,hz2⟩:=aqx (overlap (BU y) b.r);have e:ZA b y=(z1&& !z2):=(by unfold ZA;rw [<-hz1, <-hz2]);rw [e];obtain⟨q1,hq1⟩:=aqx (H6 y);obtain⟨q2,hq2⟩:=aqx (BU y);have Ii:=abL hy;obtain⟨im,him⟩:=au hy.1.1;obtain⟨pn,hpn⟩:=au hy.2.1.1;obtain⟨sn,hsn⟩:=au hy.2.2.1;have hqs:q2=(pn,sn):=(by rw [hq2];unfold BU;rw [hpn,hsn];rfl);have hqi:q1=(im,sn):=(by rw [hq1];unfold H6;rw [him,hsn];rfl);rw [<-hq1, <-hq2]at Ii hz1;rw [<-hq2]at hz2;rw [hqs]at hz1 hz2 Ii;rw [hqi]at hz1 Ii;have Ak:Hid (∀A W,bI 2 bQ W W.heap.size A [(im,sn),(pn,sn)]->Calls Tryz.prog 78 #[.slice A 2 2] W (jc z1 W)):=ah (by
  rw [hz1];exact fun A W hR=>Ib A 2 [(im,sn),(pn,sn)] (by simp) (fun x hx=>by
   rcases List.mem_cons.1 hx with rfl|hx
   · exact Ii.1
   · rw [List.mem_singleton.1 hx];exact Ii.2) W hR)
 have ai3:Hid (∀W,Calls Tryz.prog 83 #[.agg (vec 2 (bQ (pn,sn))),.agg (vec 2 (bQ b.r))] W (jc z2 W)):=ah (by rw [hz2];exact fun W=>JE (pn,sn) b.r Ii.2 hr W);unfold jc at Ak ai3⊢;obtain⟨r3,hr3⟩:=aqx (w.heap.size);obtain⟨r5,EJ⟩:=aqx (w.heap.size+1);obtain⟨W1,hW1⟩:=aqx (w.alloc (.cells (vec 3 (iC y)) 83));have hb1:Below w.heap.size w W1:=(by rw [hW1];exact Below.aY w _);have ha1:aU W1 r3 83 3 (iC y):=(by rw [hW1,hr3];exact aU.new _ _ _ _);have hs1:W1.heap.size=r5:=(by rw [hW1,EJ];simp);obtain⟨V,hV⟩:=aqx ((W1.alloc (.cells (vec 2 (bQ (0,0))) 24)).setRow W1.heap.size (vec 2 (bQ (pn,sn))));have hb2:Below W1.heap.size W1 V:=(by rw [hV];exact bg ((aC _ _).alloc (aj _) _) (aj _) _);have HA:Hid (aU V r3 83 3 (iC y)):=ah (ha1.under hb2);have D6:Hid (aU V r5 24 2 (bQ (pn,sn))):=ah (by rw [hV, <-hs1];exact(aU.new W1 _ _ _).row _);have HK:=ah ((h.under hb1).under hb2);have HB:=ah (hb1.trans (hb2.mono hb1.size));have c1:W1.cell? ⟨r3,1,none⟩=some (.int .u64 (pn:Int)):=(by rw [<-hpn];exact ha1.cell (i:=1) (by decide));have c2:W1.cell? ⟨r3,2,none⟩=some (.int .u64 (sn:Int)):=(by rw [<-hsn];exact ha1.cell (i:=2) (by decide));have gI:Hid (∀Y,Below V.heap.size V Y->Y.cell? ⟨r3,0,none⟩=some (.int .u64 (im:Int))/\ Y.cell? ⟨r3,2,none⟩=some (.int .u64 (sn:Int))):=ah fun Y hY=>by
  rw [<-him, <-hsn];exact⟨(HA.out.under hY).cell (i:=0) (by decide),(HA.out.under hY).cell (i:=2) (by decide)⟩
 have HV:=ah hV;have HW1:=ah hW1;have HR3:=ah hr3;have uq:=ah hs1;clear hz1 hz2 e hq1 hq2 Ii him hpn hsn hy hr h hb1 hb2 ha1 hs1 hV hW1 hr3 EJ hqs hqi;go_enter Tryz.func44,Tryz.ntmps44;go_upto_region 1 with fail
 rw [<-HW1.out, <-HR3.out];clear HW1 HR3;go_upto_region 2 with(first
  |((with_reducible refine aqy (.build _ _) ?_);refine dh rfl 24 _ rfl (vec 2 (bQ (pn,sn))) (by kernel_rfl) ?_)
  |((with_reducible refine aqy (.store _ _ _) ?_);refine bD rfl 24 _ _ rfl _ rfl _ rfl (aS (aU.new W1 _ _ _) (bQ (pn,sn)) bZ (kP _ _)) ?_))
 rw [<-HV.out,uq.out];clear HV uq c1 c2;cases z1
 case false=>
  refine wp_region_held_drew (S:=fun Y=>Below V.heap.size V Y) (by kernel_rfl) (show Below V.heap.size V V.drew from below_drewN (aC _ _) 1) (fun hS=> ?_);obtain⟨Y0,hY0⟩:=aqx (V.drew);rw [<-hY0]at hS⊢;clear hY0;refine tP 0 ?_;refine tP 1 (hy:=by(intro W hW;obtain⟨z0,z1⟩:=ak (gI.out W hW) True.intro;clear hW;go_split_ands;go_simp;(try with_reducible rfl))) ?_;refine tP 2 ?_;refine tP 3 (hy:=by(intro W hW;obtain⟨z0,z1⟩:=ak (gI.out W hW) True.intro;clear hW;go_split_ands;go_simp;(try with_reducible rfl))) ?_;refine tP 4 (v:= .agg (vec 2 (bQ (im,sn)))) (hy:=by(intro W hW;exact bP 24 _ rfl (vec 2 (bQ (im,sn))) (by kernel_rfl) W)) ?_;refine tP 5 (v:= .agg (vec 2 (bQ (pn,sn)))) (hy:=by(intro W hW;exact bF 24 _ rfl r5 rfl _ (aQ (D6.out.under hW) Tryz.underlying24 rfl bZ))) ?_;refine oQ 6 fun K6 hK6=> ?_;refine yg 40 _ _ rfl (.agg (vec 2 (bQ (im,sn)))) (.agg (vec 2 (bQ (pn,sn)))) rfl rfl (BQ (im,sn) (pn,sn) Y0) ?_;obtain⟨y6,o7⟩:=aqx (Y0.alloc (.cells ((cellsE 2 bQ [(im,sn),(pn,sn)]).toArray) 24));have hd:Below Y0.heap.size Y0 y6:=(by rw [o7];exact Below.aY _ _);have HR6:Hid (bI 2 bQ y6 y6.heap.size (some ⟨Y0.heap.size,0,none⟩) [(im,sn),(pn,sn)]):=ah (by rw [o7];exact xX _ _ _);rw [<-o7];refine hK6 _ _ (Below.trans hS (hd.mono (Below.size hS))) (fun hS6=> ?_);clear hS hd o7 hK6 K6;refine oQ 7 fun K7 hK7=> ?_;go_simp;refine(Ak.out _ _ HR6.out).mono ?_;rintro e y7 ⟨rfl,hd⟩;refine hK7 _ _ (Below.trans hS6 (hd.mono (Below.size hS6))) (fun hS7=> ?_);clear hS6 hd hK7 K7;refine tP 8 ?_;refine sQ 9 ?_;refine sQ 10 ?_;refine sQ 11 ?_;refine sQ 12 ?_;refine sQ 13 ?_;refine sQ 14 ?_;refine sQ 15 ?_;refine sQ 16 ?_;refine tP 17 ?_;refine tP 18 ?_;refine wpAnyH_done (by kernel_rfl) ?_ _;go_wp2_with fail
  go_ret;exact⟨rfl,HB.out.trans (hS7.mono HB.out.size)⟩
 case true=>
  refine wp_region_held_drew (S:=fun Y=>Below V.heap.size V Y) (by kernel_rfl) (show Below V.heap.size V V.drew from below_drewN (aC _ _) 1) (fun hS=> ?_);obtain⟨Y0,hY0⟩:=aqx (V.drew);rw [<-hY0]at hS⊢;clear hY0;refine tP 0 ?_;refine tP 1 (hy:=by(intro W hW;obtain⟨z0,z1⟩:=ak (gI.out W hW) True.intro;clear hW;go_split_ands;go_simp;(try with_reducible rfl))) ?_;refine tP 2 ?_;refine tP 3 (hy:=by(intro W hW;obtain⟨z0,z1⟩:=ak (gI.out W hW) True.intro;clear hW;go_split_ands;go_simp;(try with_reducible rfl))) ?_;refine tP 4 (v:= .agg (vec 2 (bQ (im,sn)))) (hy:=by(intro W hW;exact bP 24 _ rfl (vec 2 (bQ (im,sn))) (by kernel_rfl) W)) ?_;refine tP 5 (v:= .agg (vec 2 (bQ (pn,sn)))) (hy:=by(intro W hW;exact bF 24 _ rfl r5 rfl _ (aQ (D6.out.under hW) Tryz.underlying24 rfl bZ))) ?_;refine oQ 6 fun K6 hK6=> ?_;refine yg 40 _ _ rfl (.agg (vec 2 (bQ (im,sn)))) (.agg (vec 2 (bQ (pn,sn)))) rfl rfl (BQ (im,sn) (pn,sn) Y0) ?_;obtain⟨y6,o7⟩:=aqx (Y0.alloc (.cells ((cellsE 2 bQ [(im,sn),(pn,sn)]).toArray) 24));have hd:Below Y0.heap.size Y0 y6:=(by rw [o7];exact Below.aY _ _);have HR6:Hid (bI 2 bQ y6 y6.heap.size (some ⟨Y0.heap.size,0,none⟩) [(im,sn),(pn,sn)]):=ah (by rw [o7];exact xX _ _ _);rw [<-o7];refine hK6 _ _ (Below.trans hS (hd.mono (Below.size hS))) (fun hS6=> ?_);clear hS hd o7 hK6 K6;refine oQ 7 fun K7 hK7=> ?_;go_simp;refine(Ak.out _ _ HR6.out).mono ?_;rintro e y7 ⟨rfl,hd⟩;refine hK7 _ _ (Below.trans hS6 (hd.mono (Below.size hS6))) (fun hS7=> ?_);clear hS6 hd hK7 K7;refine tP 8 ?_;refine tP 9 (v:= .agg (vec 2 (bQ (pn,sn)))) (hy:=by(intro W hW;exact bF 24 _ rfl r5 rfl _ (aQ (D6.out.under hW) Tryz.underlying24 rfl bZ))) ?_;refine tP 10 ?_;refine tP 11 ?_;refine tP 12 ?_;refine tP 13 ?_;refine tP 14 (v:= .agg (vec 2 (bQ b.r))) (hy:=by(intro W hW;exact dI 24 _ rfl ⟨p,0,none⟩ (by first|rfl|(simp;done)) _ (aW ((HK.out.under hW).ram) Tryz.underlying24 rfl bZ))) ?_;refine oQ 15 fun K15 Gw=> ?_;go_simp;refine(ai3.out _).mono ?_;rintro e y15 ⟨rfl,hd⟩;refine Gw _ _ (Below.trans hS7 (hd.mono (Below.size hS7))) (fun Oc=> ?_);clear hS7 hd Gw K15;refine tP 16 ?_;refine tP 17 ?_;refine tP 18 ?_;refine wpAnyH_done (by kernel_rfl) ?_ _;go_wp2_with fail
  go_ret;exact⟨rfl,HB.out.trans (Oc.mono HB.out.size)⟩
open Go.RowKit Go.Maps
attribute [local go_sem ↓ high] jo oU oZ
theorem ai4(x:Sp)(hx:fit x)(p:Nat)(w:World):Calls Tryz.prog 84 #[.agg (vec 2 (bQ x)),.int .u64 (p:Int)] w (jc (has x p) w):=EN x.1 x.2 p hx w
theorem J9(X:GV)(y:Wi)(l:List Wi)(hw:X.g.wins=y::l)(hy:KW y)(he:vJ X.g.entry)(B:Nat)(w:World)(hG:qI w B X)(hBw:B<=w.heap.size):Calls Tryz.prog 45 #[.agg (vec 79 (aT X))] w (jc (H9 X.g y) w):=by
 obtain⟨en,hen⟩:=au he.1;obtain⟨P,hP⟩:=aqx (y.perm);obtain⟨q1,hq1⟩:=aqx (qo y);obtain⟨z1,hz1⟩:=aqx (((en:Int)% 4==0));obtain⟨z2,hz2⟩:=aqx (has q1 en);obtain⟨z3,hz3⟩:=aqx (rW P 5);have e:H9 X.g y=(z1&&(z2&&z3)):=(by unfold H9;rw [hen, <-hz1, <-hq1, <-hP, <-hz3];show(_&&(has q1 en&&_))=_;rw [<-hz2]);rw [e];have Ii:fit q1:=(by rw [hq1];exact(KL hy).1);have Ec:Hid (∀W,Calls Tryz.prog 79 #[.agg (vec 4 (bG y))] W fun e w'=>e= .returned (.agg (vec 2 (bQ q1)))/\ Below W.heap.size W w'):=ah (by rw [hq1];exact fun W=>DI y hy W);have qy:Hid (∀W,Calls Tryz.prog 84 #[.agg (vec 2 (bQ q1)),.int .u64 (en:Int)] W (jc z2 W)):=ah (by rw [hz2];exact fun W=>ai4 q1 Ii en W);have Iz:Hid (∀W,Calls Tryz.prog 85 #[.int .i64 P,.int .i64 5] W (jc z3 W)):=ah (by rw [hz3];exact fun W=>zY P 5 W);unfold jc at qy Iz⊢;obtain⟨r1,hr1⟩:=aqx (w.heap.size);obtain⟨r3,hr3⟩:=aqx (w.heap.size+1);obtain⟨W1,hW1⟩:=aqx (w.alloc (.cells (vec 79 (aT X)) 63));have hb1:Below w.heap.size w W1:=(by rw [hW1];exact Below.aY w _);have ha1:aU W1 r1 63 79 (aT X):=(by rw [hW1,hr1];exact aU.new _ _ _ _);have hs1:W1.heap.size=r3:=(by rw [hW1,hr3];simp);obtain⟨A1,d1,ew,hrow,-⟩:=hG.wi;have hn1:0<X.g.wins.length:=(by rw [hw];simp);obtain⟨a0,q,rfl,hq,-,hcp⟩:=(hrow.below (hb1.mono hBw)).at hn1;have hw0:X.g.wins[0]=y:=(by simp [hw]);rw [hw0]at hcp;rw [Nat.zero_mul]at hq;obtain⟨n,hn⟩:=aqx (X.g.wins.length);rw [<-hn]at ew hn1;have apJ:(0:Int)< (n:Int):=(by omega);obtain⟨V,hV⟩:=aqx ((W1.alloc (.cells (vec 4 (bG JJ)) 67)).setRow W1.heap.size (vec 4 (bG y)));have hb2:Below W1.heap.size W1 V:=(by rw [hV];exact bg ((aC _ _).alloc (aj _) _) (aj _) _);have HA:Hid (aU V r1 63 79 (aT X)):=ah (ha1.under hb2);have wz:Hid (aU V r3 67 4 (bG y)):=ah (by rw [hV, <-hs1];exact(aU.new W1 _ _ _).row _);have HB:=ah (hb1.trans (hb2.mono hb1.size));have c75:W1.cell? ⟨r1,75,none⟩=some (.slice (some a0) n d1):=(by rw [<-ew];exact ha1.cell (i:=75) (by decide));have HCE:Hid (∀Y,Below V.heap.size V Y->Y.cell? ⟨r1,5,none⟩=some (.int .u64 (en:Int))):=ah fun Y hY=>by rw [<-hen];exact(HA.out.under hY).cell (i:=5) (by decide)
 have gI:Hid (∀Y,Below V.heap.size V Y->Y.cell? ⟨r3,3,none⟩=some (.int .i64 P)):=ah fun Y hY=>by rw [hP];exact(wz.out.under hY).cell (i:=3) (by decide)
 have HQ:=ah hcp;have HV:=ah hV;have HW1:=ah hW1;have HR1:=ah hr1;have uq:=ah hs1;have hez:((en:Int)% 4==0)=z1:=hz1.symm;have het:((en:Int).tmod 4==0)=z1:=(by rw [hz1];rfl);clear hz1 hz2 hz3 e hq1 hP Ii hen hy he hw hb1 hb2 ha1 hs1 hV hW1 hr1 hr3 hG hBw hrow ew hcp hw0 hn;go_enter Tryz.func45,Tryz.ntmps45;go_upto_region 1 with fail
 rw [<-HW1.out, <-HR1.out];clear HW1 HR1;go_upto_region 2 with(first
  |((with_reducible refine aqy (.load 67 _) ?_);refine bC rfl 67 _ rfl q rfl _ (aW HQ.out Tryz.underlying67 rfl gQ) ?_)
  |((with_reducible refine aqy (.store _ _ _) ?_);refine bD rfl 67 _ _ rfl _ rfl _ rfl (aS (aU.new W1 _ _ _) (bG y) gQ (mZ _ _)) ?_))
 rw [<-HV.out,uq.out];clear HV uq c75 HQ;cases z1
 case false=>
  refine wp_region_held_drew (S:=fun Y=>Below V.heap.size V Y) (by kernel_rfl) (show Below V.heap.size V V.drew from below_drewN (aC _ _) 1) (fun hS=> ?_);refine tP 0 ?_;refine tP 1 (hy:=by(intro W hW;obtain⟨z0,z1⟩:=ak (HCE.out W hW) True.intro;clear hW;go_split_ands;go_simp;(try with_reducible rfl))) ?_;refine tP 2 ?_;refine tP 3 ?_;refine tP 4 ?_;refine sQ 5 ?_;refine sQ 6 ?_;refine sQ 7 ?_;refine sQ 8 ?_;refine sQ 9 ?_;refine tP 10 ?_;refine tP 11 ?_;refine sQ 12 ?_;refine sQ 13 ?_;refine sQ 14 ?_;refine tP 15 ?_;refine tP 16 ?_;refine wpAnyH_done (by kernel_rfl) ?_ _;go_wp2_with fail
  go_ret;exact⟨rfl,HB.out.trans (hS.mono HB.out.size)⟩
 case true=>
  cases z2
  case false=>
   refine wp_region_held_drew (S:=fun Y=>Below V.heap.size V Y) (by kernel_rfl) (show Below V.heap.size V V.drew from below_drewN (aC _ _) 1) (fun hS=> ?_);refine tP 0 ?_;refine tP 1 (hy:=by(intro W hW;obtain⟨z0,z1⟩:=ak (HCE.out W hW) True.intro;clear hW;go_split_ands;go_simp;(try with_reducible rfl))) ?_;refine tP 2 ?_;refine tP 3 ?_;refine tP 4 ?_;refine tP 5 (v:= .agg (vec 4 (bG y))) (hy:=by(intro W hW;exact bF 67 _ rfl r3 rfl _ (aQ (wz.out.under hW) Tryz.underlying67 rfl gQ))) ?_;refine tP 7 ?_;refine tP 8 (hy:=by(intro W hW;obtain⟨z0,z1⟩:=ak (HCE.out W hW) True.intro;clear hW;go_split_ands;go_simp;(try with_reducible rfl))) ?_;refine oQ 6 fun K6 hK6=> ?_;go_simp;refine(Ec.out _).mono ?_;rintro e y6 ⟨rfl,hd⟩;refine hK6 _ _ (Below.trans hS (hd.mono (Below.size hS))) (fun hS6=> ?_);clear hS hd hK6 K6;refine oQ 9 fun K9 hK9=> ?_;go_simp;refine(qy.out _).mono ?_;rintro e y9 ⟨rfl,hd⟩;refine hK9 _ _ (Below.trans hS6 (hd.mono (Below.size hS6))) (fun iJ=> ?_);clear hS6 hd hK9 K9;refine tP 10 ?_;refine tP 11 ?_;refine sQ 12 ?_;refine sQ 13 ?_;refine sQ 14 ?_;refine tP 15 ?_;refine tP 16 ?_;refine wpAnyH_done (by kernel_rfl) ?_ _;go_wp2_with fail
   go_ret;exact⟨rfl,HB.out.trans (iJ.mono HB.out.size)⟩
  case true=>
   refine wp_region_held_drew (S:=fun Y=>Below V.heap.size V Y) (by kernel_rfl) (show Below V.heap.size V V.drew from below_drewN (aC _ _) 1) (fun hS=> ?_);refine tP 0 ?_;refine tP 1 (hy:=by(intro W hW;obtain⟨z0,z1⟩:=ak (HCE.out W hW) True.intro;clear hW;go_split_ands;go_simp;(try with_reducible rfl))) ?_;refine tP 2 ?_;refine tP 3 ?_;refine tP 4 ?_;refine tP 5 (v:= .agg (vec 4 (bG y))) (hy:=by(intro W hW;exact bF 67 _ rfl r3 rfl _ (aQ (wz.out.under hW) Tryz.underlying67 rfl gQ))) ?_;refine tP 7 ?_;refine tP 8 (hy:=by(intro W hW;obtain⟨z0,z1⟩:=ak (HCE.out W hW) True.intro;clear hW;go_split_ands;go_simp;(try with_reducible rfl))) ?_;refine oQ 6 fun K6 hK6=> ?_;go_simp;refine(Ec.out _).mono ?_;rintro e y6 ⟨rfl,hd⟩;refine hK6 _ _ (Below.trans hS (hd.mono (Below.size hS))) (fun hS6=> ?_);clear hS hd hK6 K6;refine oQ 9 fun K9 hK9=> ?_;go_simp;refine(qy.out _).mono ?_;rintro e y9 ⟨rfl,hd⟩;refine hK9 _ _ (Below.trans hS6 (hd.mono (Below.size hS6))) (fun iJ=> ?_);clear hS6 hd hK9 K9;refine tP 10 ?_;refine tP 11 ?_;refine tP 12 ?_;refine tP 13 (hy:=by(intro W hW;obtain⟨z0,z1⟩:=ak (gI.out W hW) True.intro;clear hW;go_split_ands;go_simp;(try with_reducible rfl))) ?_;refine oQ 14 fun FC nY=> ?_;go_simp;refine(Iz.out _).mono ?_;rintro e lQ ⟨rfl,hd⟩;refine nY _ _ (Below.trans iJ (hd.mono (Below.size iJ))) (fun jU=> ?_);clear iJ hd nY FC;refine tP 15 ?_;refine tP 16 ?_;refine wpAnyH_done (by kernel_rfl) ?_ _;go_wp2_with fail
   go_ret;exact⟨rfl,HB.out.trans (jU.mono HB.out.size)⟩
theorem VT(t:Gs)(y:Wi)(hy:KW y)(ht:fit (zk t))(g:Nat)(w:World)(hg:aU w g 24 2 (bQ (zk t))):Calls Tryz.prog 86 #[.agg (vec 4 (bG y)),.pointer (some ⟨g,0,none⟩)] w (jc (BP t y) w):=by
 obtain⟨P,hP⟩:=aqx (y.perm);obtain⟨q1,hq1⟩:=aqx (qo y);obtain⟨T0,hT0⟩:=aqx (zk t);obtain⟨z1,hz1⟩:=aqx (rW P 1);obtain⟨z2,hz2⟩:=aqx (within T0 q1);have e:BP t y=(z1&&z2):=(by unfold BP;rw [<-hq1, <-hT0, <-hz2, <-hP, <-hz1]);rw [e];rw [<-hT0]at hg ht;have Ii:fit q1:=(by rw [hq1];exact(KL hy).1);have Ec:Hid (∀W,Calls Tryz.prog 79 #[.agg (vec 4 (bG y))] W fun e w'=>e= .returned (.agg (vec 2 (bQ q1)))/\ Below W.heap.size W w'):=ah (by rw [hq1];exact fun W=>DI y hy W);have ai5:Hid (∀W,Calls Tryz.prog 69 #[.agg (vec 2 (bQ T0)),.agg (vec 2 (bQ q1))] W (jc z2 W)):=ah (by rw [hz2];exact fun W=>Ia T0 q1 ht Ii W);have Iz:Hid (∀W,Calls Tryz.prog 85 #[.int .i64 P,.int .i64 1] W (jc z1 W)):=ah (by rw [hz1];exact fun W=>zY P 1 W);unfold jc at ai5 Iz⊢;obtain⟨r3,hr3⟩:=aqx (w.heap.size);obtain⟨V,hV⟩:=aqx (w.alloc (.cells (vec 4 (bG y)) 67));have hb:Below w.heap.size w V:=(by rw [hV];exact Below.aY w _);have HA:Hid (aU V r3 67 4 (bG y)):=ah (by rw [hV,hr3];exact aU.new _ _ _ _);have HG:=ah (hg.under hb);have HB:=ah hb;have gI:Hid (∀Y,Below V.heap.size V Y->Y.cell? ⟨r3,3,none⟩=some (.int .i64 P)):=ah fun Y hY=>by rw [hP];exact(HA.out.under hY).cell (i:=3) (by decide)
 have HV:=ah hV;have HR3:=ah hr3;clear hz1 hz2 e hq1 hP hT0 Ii hy ht hg hb hV hr3;go_enter Tryz.func86,Tryz.ntmps86;go_upto_region 1 with fail
 rw [<-HV.out, <-HR3.out];clear HV HR3;cases z1
 case false=>
  refine wp_region_held_drew (S:=fun Y=>Below V.heap.size V Y) (by kernel_rfl) (show Below V.heap.size V V.drew from below_drewN (aC _ _) 1) (fun hS=> ?_);refine tP 0 ?_;refine tP 1 (hy:=by(intro W hW;obtain⟨z0,z1⟩:=ak (gI.out W hW) True.intro;clear hW;go_split_ands;go_simp;(try with_reducible rfl))) ?_;refine oQ 2 fun K2 hK2=> ?_;go_simp;refine(Iz.out _).mono ?_;rintro e y2 ⟨rfl,hd⟩;refine hK2 _ _ (Below.trans hS (hd.mono (Below.size hS))) (fun hS2=> ?_);clear hS hd hK2 K2;refine tP 3 ?_;refine sQ 4 ?_;refine sQ 5 ?_;refine sQ 6 ?_;refine sQ 7 ?_;refine tP 8 ?_;refine tP 9 ?_;refine wpAnyH_done (by kernel_rfl) ?_ _;go_wp2_with fail
  go_ret;exact⟨rfl,HB.out.trans (hS2.mono HB.out.size)⟩
 case true=>
  refine wp_region_held_drew (S:=fun Y=>Below V.heap.size V Y) (by kernel_rfl) (show Below V.heap.size V V.drew from below_drewN (aC _ _) 1) (fun hS=> ?_);refine tP 0 ?_;refine tP 1 (hy:=by(intro W hW;obtain⟨z0,z1⟩:=ak (gI.out W hW) True.intro;clear hW;go_split_ands;go_simp;(try with_reducible rfl))) ?_;refine oQ 2 fun K2 hK2=> ?_;go_simp;refine(Iz.out _).mono ?_;rintro e y2 ⟨rfl,hd⟩;refine hK2 _ _ (Below.trans hS (hd.mono (Below.size hS))) (fun hS2=> ?_);clear hS hd hK2 K2;refine tP 3 ?_;refine tP 4 (v:= .agg (vec 2 (bQ T0))) (hy:=by(intro W hW;exact bF 24 _ rfl g rfl _ (aQ (HG.out.under hW) Tryz.underlying24 rfl bZ))) ?_;refine tP 5 (v:= .agg (vec 4 (bG y))) (hy:=by(intro W hW;exact bF 67 _ rfl r3 rfl _ (aQ (HA.out.under hW) Tryz.underlying67 rfl gQ))) ?_;refine oQ 6 fun K6 hK6=> ?_;go_simp;refine(Ec.out _).mono ?_;rintro e y6 ⟨rfl,hd⟩;refine hK6 _ _ (Below.trans hS2 (hd.mono (Below.size hS2))) (fun hS6=> ?_);clear hS2 hd hK6 K6;refine oQ 7 fun K7 hK7=> ?_;go_simp;refine(ai5.out _).mono ?_;rintro e y7 ⟨rfl,hd⟩;refine hK7 _ _ (Below.trans hS6 (hd.mono (Below.size hS6))) (fun hS7=> ?_);clear hS6 hd hK7 K7;refine tP 8 ?_;refine tP 9 ?_;refine wpAnyH_done (by kernel_rfl) ?_ _;go_wp2_with fail
  go_ret;exact⟨rfl,HB.out.trans (hS7.mono HB.out.size)⟩
def Dy(B:Addr)(d k:Nat):Addr:=if d=k then B else B.add (k*4)
theorem TJ:Tryz.prog.underlying 58=some (.slice (Tryz.prog.elem 58)):=by kernel_rfl
theorem abO(W:World):(sizeOf (Tryz.prog.elem 58)).run Tryz.prog W= .ok 4 W:=by kernel_rfl
theorem yE(B:Addr)(N d k:Nat)(hk:k<=N)(W:World):(Instr.sliceAt 58 (.slice (some B) N d) (some (.int .i64 (k:Int))) none none).run Tryz.prog W= .ok (.slice (some (Dy B d k)) (N-k) (d-k)) W:=by
 rw [run_sliceAt_slice W _ _ _ _ _ TJ,run_slice_l W _ _ _ _ TJ .i64 (k:Int) (by omega) (by omega),abO];simp only [Result.andThen_ok,sliced,Int.toNat_natCast];unfold Dy;by_cases hdk:d=k
 · rw [if_pos hdk,if_pos hdk]
 · rw [if_neg hdk,if_neg hdk];rfl
theorem EM{w:World}{B:Nat}{a:Addr}{l:List Wi}{d:Nat}(h:bI 4 bG w B (some a) l)(hd:l.length<=d):bI 4 bG w B (some (Dy a d 1)) (l.drop 1):=fun hn=>by
 have hl:1<l.length:=by
  rcases Nat.lt_or_ge 1 l.length with h1|h1
  · exact h1
  · exact absurd (List.drop_eq_nil_of_le h1) hn
 obtain⟨a',e,hb,hc⟩:=h (fun e=>by rw [e]at hl;cases hl);injection e with e
 subst e;have hc1:Dy a d 1=a.add 4:=(by unfold Dy;rw [if_neg (by omega)]);rw [hc1];refine⟨_,rfl,by rw [dA];exact hb,fun j hj i hi=> ?_⟩;have hj2:j+1<l.length:=(by rw [List.length_drop]at hj;omega);rw [addr_add_add,show 4+(j*4+i)=(j+1)*4+i by omega,hc (j+1) hj2 i hi,List.getElem_drop]
 congr 2
 simp [Nat.add_comm]
theorem Gq(X:GV)(hw0:X.g.wins≠ [])(hwl:X.g.wins.length<=1000000)(hy:∀y∈X.g.wins,KW y)(he:vJ X.g.Ac)(B d1:Nat)(A1:Option Addr)(w:World)(ew:X.wv= .slice A1 X.g.wins.length d1)(hd1:X.g.wins.length<=d1)(hrow:bI 4 bG w B A1 X.g.wins)(hBw:B<=w.heap.size):
  Calls Tryz.prog 46 #[.agg (vec 79 (aT X))] w (jc (ZC X.g) w):=by
 obtain⟨dn,hdn⟩:=au he.1;obtain⟨z1,hz1⟩:=aqx (((dn:Int)==0));obtain⟨z2,hz2⟩:=aqx (((dn:Int)% 4096==0));obtain⟨z3,hz3⟩:=aqx ((X.g.wins.drop 1).any (BP X.g));have e:ZC X.g=(z1||(z2&&z3)):=(by unfold ZC;rw [<-hz3,hdn, <-hz1, <-hz2]);rw [e];have htr:zk X.g=(dn,16384):=(by unfold zk;rw [hdn];rfl);have htf:fit (zk X.g):=(by rw [htr];exact⟨by have:=he.2;omega,show(16384:Nat)<18446744073709551616 by decide⟩);obtain⟨r1,hr1⟩:=aqx (w.heap.size);obtain⟨r3,hr3⟩:=aqx (w.heap.size+1);obtain⟨W1,hW1⟩:=aqx (w.alloc (.cells (vec 79 (aT X)) 63));have hb1:Below w.heap.size w W1:=(by rw [hW1];exact Below.aY w _);have ha1:aU W1 r1 63 79 (aT X):=(by rw [hW1,hr1];exact aU.new _ _ _ _);have hs1:W1.heap.size=r3:=(by rw [hW1,hr3];simp);obtain⟨a0,rfl⟩:∃a,A1=some a:=by obtain⟨a,e,-⟩:=hrow hw0;exact⟨a,e⟩
 obtain⟨V,hV⟩:=aqx ((W1.alloc (.cells (vec 2 (bQ (0,0))) 24)).setRow W1.heap.size (vec 2 (bQ (dn,16384))));have hb2:Below W1.heap.size W1 V:=(by rw [hV];exact bg ((aC _ _).alloc (aj _) _) (aj _) _);have ha3:aU V r3 24 2 (bQ (zk X.g)):=(by rw [htr,hV, <-hs1];exact(aU.new W1 _ _ _).row _);have HB:=ah (hb1.trans (hb2.mono hb1.size));have eL:∀args w,(callFunc 86 args).run Tryz.prog w= .ok (.enter 86 args) w:=enters_of Tryz.func86 (by kernel_rfl) rfl;have hrv:bI 4 bG V V.heap.size (some (Dy a0 d1 1)) (X.g.wins.drop 1):=(EM ((hrow.below (hb1.mono hBw)).below (hb2.mono (aA hBw hb1.size))) hd1).wide (aA hBw HB.out.size);have HC:Hid (Calls Tryz.prog 76 #[.slice (some (Dy a0 d1 1)) (X.g.wins.length-1) (d1-1),.func (.func 86) #[] #[.pointer (some ⟨r3,0,none⟩)]] V (jc z3 V)):=ah (by
  have hq:=TI (some (Dy a0 d1 1)) V.heap.size (d1-1) (X.g.wins.drop 1) (by rw [List.length_drop];omega) 86 #[] #[.pointer (some ⟨r3,0,none⟩)] V.heap.size _ _ (Asks.pure (V:=V) (q:=BP X.g) (n0:=V.heap.size) (Rw:=fun Y=>bI 4 bG Y V.heap.size (some (Dy a0 d1 1)) (X.g.wins.drop 1)) true
   (fun Y hY=>hrv.below hY) eL
   (fun i hi Y hY=>VT X.g (X.g.wins.drop 1)[i] (hy _ (List.mem_of_mem_drop (ay hi))) htf r3 Y (ha3.under hY))) V ⟨aC _ _,fun j _ hj=>by omega⟩
  rw [<-show(X.g.wins.drop 1).length=X.g.wins.length-1 from List.length_drop];refine hq.mono ?_;rintro e w' ⟨r,rfl,-,h1,h2⟩;cases r with
  |true=>
   obtain⟨i,hi,hB,hi2,hq⟩:=h1 rfl;exact⟨by rw [hz3,List.any_eq_true.2 ⟨_,ay hi2,hq⟩],hB⟩
  |false=>
   refine⟨?_,(h2 rfl).1⟩;have:z3=false:=by
    rw [hz3, <-Bool.not_eq_true,List.any_eq_true];rintro⟨x,hx,hxx⟩;obtain⟨i,hi,rfl⟩:=List.getElem_of_mem hx;have:=(h2 rfl).2 i hi hi;rw [hxx]at this;cases this
   rw [this])
 unfold jc at HC⊢;obtain⟨n,hn⟩:=aqx (X.g.wins.length);have hn1:1<=n:=(by rw [hn];exact Nat.pos_of_ne_zero fun h=>hw0 (List.length_eq_zero_iff.1 h));rw [<-hn]at HC ew;have c6:W1.cell? ⟨r1,6,none⟩=some (.int .u64 (dn:Int)):=(by rw [<-hdn];exact ha1.cell (i:=6) (by decide));have oC:Hid (V.cell? ⟨r1,6,none⟩=some (.int .u64 (dn:Int))/\ V.cell? ⟨r1,75,none⟩=some (.slice (some a0) n d1)):=ah ⟨by rw [<-hdn];exact(ha1.under hb2).cell (i:=6) (by decide),by rw [<-ew];exact(ha1.under hb2).cell (i:=75) (by decide)⟩;have HV:=ah hV;have HW1:=ah hW1;have HR1:=ah hr1;have uq:=ah hs1;have HSL:Hid (∀W,(Instr.sliceAt 58 (.slice (some a0) n d1) (some (.int .i64 1)) none none).run Tryz.prog W= .ok (.slice (some (Dy a0 d1 1)) (n-1) (d1-1)) W):=(ah fun W=>yE a0 n d1 1 hn1 W);have hez:((dn:Int)==0)=z1:=hz1.symm;have hey:((dn:Int)% 4096==0)=z2:=hz2.symm;have het:((dn:Int).tmod 4096==0)=z2:=(by rw [hz2];rfl);have hmf:∀ (fn:Fn) (first cap:Array Value) (w:World),(Instr.makeFunc fn first cap).run Tryz.prog w= .ok (.func fn first cap) w:=(fun _ _ _ _=>rfl);clear hz1 hz2 hz3 e hdn hy he hb1 hb2 ha1 ha3 hs1 hV hW1 hr1 hr3 hBw hrow hrv ew hn hw0 hwl hd1 eL htr htf hn1;go_enter Tryz.func46,Tryz.ntmps46;go_upto_region 1 with fail
 rw [<-HW1.out, <-HR1.out];clear HW1 HR1;go_upto_region 2 with(first
  |((with_reducible refine aqy (.build _ _) ?_);refine dh rfl 24 _ rfl (vec 2 (bQ (dn,16384))) (by kernel_rfl) ?_)
  |((with_reducible refine aqy (.store _ _ _) ?_);refine bD rfl 24 _ _ rfl _ rfl _ rfl (aS (aU.new W1 _ _ _) (bQ (dn,16384)) bZ (kP _ _)) ?_))
 rw [<-HV.out,uq.out];clear HV uq c6;obtain⟨d6,d75⟩:=oC.out;have hsl:=HSL.out;clear HSL oC;cases z1
 case true=>
  go_wp2_with fail
  go_ret;exact⟨rfl,HB.out⟩
 case false=>
  cases z2
  case false=>
   go_wp2_with fail
   go_ret;exact⟨rfl,HB.out⟩
  case true=>
   go_wp2_with(go_at_call 76;refine HC.out.mono ?_;rintro e w2 ⟨rfl,hd⟩;have HD:=ah hd;clear hd)
   go_ret;exact⟨rfl,HB.out.trans (HD.out.mono HB.out.size)⟩
open Go.RowKit Go.Maps
attribute [local go_sem ↓ high] jo oU oZ sW zu
theorem EI{P:Program}{w w':World}{ops:Array Oper}{rest:List Oper}{o:Oper}{a:Act}{Q:Exit->Act->World->Prop}(hw:Region.wanted o (yielded ops a.tmps)=true){t:TypeId}{n:Nat}(y:Operand)(ho:o.op= .buildSlice t n #[(0,y)])(v0:Value)(hy:a.eval y=v0){v:Value}(hr:(Instr.buildSlice t n #[(0,v0)]).run P w= .ok v w')
  (h:wpList P ops Q rest (a.put o.dst v) w'):wpList P ops Q (o::rest) a w:=
 wpList_step fun K hK=>by
  simp only [hw,if_true];unfold Oper.wp execOp;subst hy;simp only [ho,Sem.run_bind,List.map_toArray,List.map_cons,List.map_nil,hr,Result.andThen_ok,Sem.run_pure];exact hK _ _ h
theorem ZG(n:Nat)(y:Ch)(e:En)(hy:Ui y)(he:EnB e)(gn gc:Nat)(w:World)(hn:w.cell? ⟨gn,0,none⟩=some (.int .i64 (n:Int)))(hc:aU w gc 47 8 (kJ y)):Calls Tryz.prog 95 #[.agg (vec 3 (dY e)),.pointer (some ⟨gn,0,none⟩),.pointer (some ⟨gc,0,none⟩)] w (jc (Iy n y e) w):=by
 obtain⟨im,him⟩:=au he.2.2.1;obtain⟨sn,hsn⟩:=au hy.2.1.1;obtain⟨G,hG⟩:=aqx (e.bK);obtain⟨P,hP⟩:=aqx (e.perm);obtain⟨z0,hz0⟩:=aqx (decide (G< (n:Int)));obtain⟨z1,hz1⟩:=aqx (!(P==0));obtain⟨z2,hz2⟩:=aqx (rW P 4);obtain⟨z3,hz3⟩:=aqx (DF [(im,sn)]);have ee:Iy n y e=(z0&&((z1&& !z2)&&z3)):=(by unfold Iy;rw [him,hsn, <-hG, <-hP, <-hz0, <-hz1, <-hz2];show(_&&(_&&DF [(im,sn)]))=_;rw [<-hz3]);rw [ee];have Ii:fit (im,sn):=⟨by have:=he.2.2.2;rw [him]at this;show im<_;omega,by have:=hy.2.1.2;rw [hsn]at this;show sn<_;omega⟩;have Ak:Hid (∀A W,bI 2 bQ W W.heap.size A [(im,sn)]->Calls Tryz.prog 78 #[.slice A 1 1] W (jc z3 W)):=ah (by
  rw [hz3];exact fun A W hR=>Ib A 1 [(im,sn)] (by simp) (fun x hx=>by rw [List.mem_singleton.1 hx];exact Ii) W hR)
 have Iz:Hid (∀W,Calls Tryz.prog 85 #[.int .i64 P,.int .i64 4] W (jc z2 W)):=ah (by rw [hz2];exact fun W=>zY P 4 W);unfold jc at Ak Iz⊢;obtain⟨r3,hr3⟩:=aqx (w.heap.size);obtain⟨V,hV⟩:=aqx (w.alloc (.cells (vec 3 (dY e)) 44));have hb:Below w.heap.size w V:=(by rw [hV];exact Below.aY w _);have ha:aU V r3 44 3 (dY e):=(by rw [hV,hr3];exact aU.new _ _ _ _);have DX:Hid (∀Y,Below V.heap.size V Y->(Y.cell? ⟨r3,0,none⟩=some (.int .i64 G)/\ Y.cell? ⟨r3,1,none⟩=some (.int .i64 P)/\ Y.cell? ⟨r3,2,none⟩=some (.int .u64 (im:Int)))/\ Y.cell? ⟨gn,0,none⟩=some (.int .i64 (n:Int))/\ Y.cell? ⟨gc,1,none⟩=some (.int .u64 (sn:Int))):=ah fun Y hY=>by
  rw [hG,hP, <-him, <-hsn];refine⟨⟨(ha.under hY).cell (i:=0) (by decide),(ha.under hY).cell (i:=1) (by decide),(ha.under hY).cell (i:=2) (by decide)⟩, ?_,((hc.under hb).under hY).cell (i:=1) (by decide)⟩;have hgl:gn<w.heap.size:=lt_of_cell hn;exact(hY.cell (p:=⟨gn,0,none⟩) (aN hgl hb.size)).trans ((hb.cell (p:=⟨gn,0,none⟩) hgl).trans hn)
 have HB:=ah hb;have HV:=ah hV;have HR3:=ah hr3;have k0:decide (G< (n:Int))=z0:=hz0.symm;have k1:(P !=0)=z1:=(by rw [hz1];rfl);obtain⟨⟨c0,c1,c2⟩,c3,c4⟩:=DX.out V (aC _ _);clear hz0 hz1 hz2 hz3 ee him hsn hG hP Ii hy he hn hc hb ha hV hr3;go_enter Tryz.func95,Tryz.ntmps95;go_upto_region 1 with fail
 rw [<-HV.out, <-HR3.out];clear HV HR3;cases z0
 case false=>
  go_wp2_with fail
  go_ret;exact⟨rfl,HB.out⟩
 case true=>
  cases z1
  case false=>
   go_wp2_with fail
   go_ret;exact⟨rfl,HB.out⟩
  case true=>
   cases z2
   case true=>
    go_wp2_with(go_at_call 85;refine(Iz.out _).mono ?_;rintro e w1 ⟨rfl,hd⟩;have HD:=ah hd;obtain⟨⟨c0,c1,c2⟩,c3,c4⟩:=DX.out w1 hd;clear hd)
    go_ret;exact⟨rfl,HB.out.trans (HD.out.mono HB.out.size)⟩
   case false=>
    go_wp2_with(first
     |(go_at_call 85;refine(Iz.out _).mono ?_;rintro e w1 ⟨rfl,hd⟩;have HD:=ah hd;obtain⟨⟨c0,c1,c2⟩,c3,c4⟩:=DX.out w1 hd;clear hd)
     |((with_reducible refine aqy (.build _ _) ?_);refine kN (by kernel_rfl) (bP 24 _ rfl (vec 2 (bQ (im,sn))) (by kernel_rfl) _) ?_)
     |((with_reducible refine aqy (.buildSlice _ _ _) ?_);refine EI (by kernel_rfl) _ rfl (.agg (vec 2 (bQ (im,sn)))) rfl (oV (im,sn) _) ?_)
     |(go_at_call 78;refine(Ak.out _ _ (xH (im,sn) _)).mono ?_;rintro e w2 ⟨rfl,hd⟩;have HD2:=ah ((HD.out.trans ((Below.aY _ _).mono HD.out.size)).trans (hd.mono (aA HD.out.size (by simp))));clear hd))
    go_ret;exact⟨rfl,HB.out.trans (HD2.out.mono HB.out.size)⟩
theorem VU{Y:World}{g:Nat}{t:TypeId}{y:Ch}(h:aU Y g t 8 (kJ y)):bI 3 dY Y Y.heap.size (some ⟨g,2,none⟩) [y.a,y.b]:=fun _=>
 ⟨_,rfl,h.lt,fun j hj i hi=>by
  rw [lF];have hj:j<2:=hj;rcases(by omega:j=0∨j=1)with rfl|rfl<;>rcases(by omega:i=0∨i=1∨i=2)with rfl|rfl|rfl
  · exact h.cell (i:=2) (by decide)
  · exact h.cell (i:=3) (by decide)
  · exact h.cell (i:=4) (by decide)
  · exact h.cell (i:=5) (by decide)
  · exact h.cell (i:=6) (by decide)
  · exact h.cell (i:=7) (by decide)⟩
theorem bI.down{α:Type}{n:Nat}{enc:α->Nat->Value}{w:World}{B B':Nat}{A:Option Addr}{l:List α}(h:bI n enc w B A l)(hb:∀a,A=some a->a.block<B'):bI n enc w B' A l:=fun hn=>by
 obtain⟨a,e,_,hc⟩:=h hn;exact⟨a,e,hb a e,hc⟩
theorem N7(n:Nat)(y:Ch)(hy:Ui y)(w:World):Calls Tryz.prog 55 #[.agg (vec 8 (kJ y)),.int .i64 (n:Int)] w (jc (NZ n y) w):=by
 obtain⟨GA,hGA⟩:=aqx (y.a.bK);obtain⟨GB,hGB⟩:=aqx (y.b.bK);obtain⟨z0,hz0⟩:=aqx (decide (GA≠GB));obtain⟨z1,hz1⟩:=aqx ([y.a,y.b].all (Iy n y));have ee:NZ n y=(z0&&z1):=(by unfold NZ;rw [hz1, <-hGA, <-hGB, <-hz0];simp);rw [ee];obtain⟨r2,hr2⟩:=aqx (w.heap.size);obtain⟨r3,hr3⟩:=aqx (w.heap.size+1);obtain⟨V,hV⟩:=aqx ((w.alloc (.cells (vec 8 (kJ y)) 47)).alloc (.cells #[.int .i64 (n:Int)] 3));have hb:Below w.heap.size w V:=(by rw [hV];exact(Below.aY w _).alloc (by simp) _);have ha:aU V r2 47 8 (kJ y):=(by rw [hV,hr2];exact(aU.new w _ _ _).alloc _);have hbn:fB V r3 3 #[.int .i64 (n:Int)]:=(by rw [hV];exact fB.new _ _ _ (by rw [hr3];simp));have eL:∀args w,(callFunc 95 args).run Tryz.prog w= .ok (.enter 95 args) w:=enters_of Tryz.func95 (by kernel_rfl) rfl;have HE:Hid (Calls Tryz.prog 96 #[.slice (some ⟨r2,2,none⟩) 2 2,.func (.func 95) #[] #[.pointer (some ⟨r3,0,none⟩),.pointer (some ⟨r2,0,none⟩)]] V (jc z1 V)):=ah (by
  have hq:=abE (some ⟨r2,2,none⟩) V.heap.size 2 [y.a,y.b] (by simp) 95 #[] #[.pointer (some ⟨r3,0,none⟩),.pointer (some ⟨r2,0,none⟩)] V.heap.size _ _ (Asks.pure (V:=V) (q:=Iy n y) (n0:=V.heap.size) (Rw:=fun Y=>bI 3 dY Y V.heap.size (some ⟨r2,2,none⟩) [y.a,y.b]) false
   (fun Y hY=>(VU (ha.under hY)).down fun a e=>by injection e with e;subst e;exact ha.lt) eL
   (fun i hi Y hY=>ZG n y [y.a,y.b][i] hy (by
    have hi:i<2:=hi;rcases(by omega:i=0∨i=1)with rfl|rfl
    · exact hy.2.2.1
    · exact hy.2.2.2) r3 r2 Y ((hbn.under hY).cellAt 0 rfl) (ha.under hY))) V (aj _) ⟨aC _ _,fun j _ hj=>by omega⟩
  refine hq.mono ?_;rintro e w' ⟨r,rfl,-,h1,h2⟩;cases r with
  |true=>exact⟨by rw [hz1,Qd fun i hi=>(h1 rfl).2 i hi hi],(h1 rfl).1⟩
  |false=>
   obtain⟨i,hi,hB,hi2,hq⟩:=h2 rfl;exact⟨by rw [hz1,vg (f:=Iy n y) hi2 hq],hB⟩)
 unfold jc at HE⊢;have c2:V.cell? ⟨r2,2,none⟩=some (.int .i64 GA):=(by rw [hGA];exact ha.cell (i:=2) (by decide));have c5:V.cell? ⟨r2,5,none⟩=some (.int .i64 GB):=(by rw [hGB];exact ha.cell (i:=5) (by decide));have k0:(GA !=GB)=z0:=(by rw [hz0];by_cases h:GA=GB<;>simp [h]);have hmf:∀ (fn:Fn) (first cap:Array Value) (w:World),(Instr.makeFunc fn first cap).run Tryz.prog w= .ok (.func fn first cap) w:=(fun _ _ _ _=>rfl);have HB:=ah hb;have HV:=ah hV;have HR:=ah (ak hr2 hr3);clear hz0 hz1 ee hGA hGB hy hb ha hbn hV hr2 hr3 eL;go_enter Tryz.func55,Tryz.ntmps55;go_upto_region 1 with fail
 rw [<-HV.out, <-HR.out.2, <-HR.out.1];clear HV HR;cases z0
 case false=>
  go_wp2_with fail
  go_ret;exact⟨rfl,HB.out⟩
 case true=>
  go_wp2_with(go_at_call 96;refine HE.out.mono ?_;rintro e w2 ⟨rfl,hd⟩;have HD:=ah hd;clear hd)
  go_ret;exact⟨rfl,HB.out.trans (HD.out.mono HB.out.size)⟩
open Go.Sort
variable {α : Type} [Inhabited α] {lt : α -> α -> Bool}
def OL(f:Nat->α)(a b n x:Nat):α:=if a<=x/\ x<a+n then f (x-a+b)else if b<=x/\ x<b+n then f (x-b+a)else f x
def xq(f:Nat->α)(a m b x:Nat):α:=if a<=x/\ x<a+(b-m)then f (x-a+m)else if a+(b-m)<=x/\ x<b then f (x-(b-m))else f x
def at_(d:Array α)(x:Nat):α:=d[x]!
structure zZ(d dk:Array α)(a b n i:Nat):Prop where
 size:dk.size=d.size
 get:∀x,dk[x]! =OL (at_ d) a b i x
 perm:∀lo hi,lo<=a->b+n<=hi->hi<=d.size->PermIn lo hi d dk
theorem zZ.start(d:Array α)(a b n:Nat):zZ d d a b n 0:=⟨rfl,fun x=>by
 unfold OL at_;rw [if_neg (by omega),if_neg (by omega)],fun _ _ _ _ _=>permIn_refl _ _ _⟩
theorem zZ.step{d dk:Array α}{a b n i:Nat}(h:zZ d dk a b n i)(hi:i<n)(hab:a+n<=b)(hb:b+n<=d.size):zZ d (swp dk (a+i) (b+i)) a b n (i+1):=by
 have hs:=h.size;refine⟨by rw [swp_size];exact hs,fun x=> ?_,fun lo hi' h1 h2 h3=>permIn_trans _ _ _ _ _ (h.perm lo hi' h1 h2 h3) (swp_permIn dk lo hi' (a+i) (b+i) (by omega) (by omega) (by omega) (by omega) (by omega))⟩;rw [swp_get _ (by omega) (by omega),h.get,h.get,h.get];unfold OL
 repeat' split
 all_goals first|rfl|(exfalso;omega)|(congr 1;omega)
structure qO(d dk:Array α)(a m b:Nat):Prop where
 size:dk.size=d.size
 get:∀x,dk[x]! =xq (at_ d) a m b x
 perm:PermIn a b d dk
omit [Inhabited α]in
theorem QW{f:Nat->α}{m b x:Nat}(h:m<=b):xq f m m b x=f x:=by
 unfold xq
 repeat' split
 all_goals first|rfl|(exfalso;omega)|(congr 1;omega)
omit [Inhabited α]in
theorem QX{f:Nat->α}{a m x:Nat}:xq f a m m x=f x:=by
 unfold xq
 repeat' split
 all_goals first|rfl|(exfalso;omega)|(congr 1;omega)
theorem qO.ZH(d:Array α){m b:Nat}(h:m<=b):qO d d m m b:=⟨rfl,fun x=>by rw [QW h];rfl,permIn_refl _ _ _⟩
theorem qO.ZI(d:Array α){a m:Nat}:qO d d a m m:=⟨rfl,fun x=>by rw [QX];rfl,permIn_refl _ _ _⟩
structure Es(d dk:Array α)(a m b i j:Nat):Prop where
 size:dk.size=d.size
 get:∀x,xq (at_ dk) (m-i) m (m+j) x=xq (at_ d) a m b x
 perm:PermIn a b d dk
 i0:0<i
 j0:0<j
 ia:i<=m-a
 jb:j<=b-m
theorem Es.start(d:Array α){a m b:Nat}(h1:a<m)(h2:m<b):Es d d a m b (m-a) (b-m):=
 ⟨rfl,fun x=>by rw [show m-(m-a)=a by omega,show m+(b-m)=b by omega],permIn_refl _ _ _,by omega,by omega,by omega,by omega⟩
theorem Es.left{d dk dl:Array α}{a m b i j:Nat}(h:Es d dk a m b i j)(hs:zZ dk dl (m-i) m j j)(hij:j<i)(ham:a<=m)(hmb:m<=b)(hb:b<=d.size):Es d dl a m b (i-j) j:=by
 obtain⟨k1,k2,k3,k4,k5,k6,k7⟩:=h;refine⟨hs.size.trans k1,fun x=> ?_,permIn_trans _ _ _ _ _ k3 (hs.perm a b (by omega) (by omega) (by omega)),by omega,by omega,by omega,by omega⟩;rw [<-k2];have hg:∀y,at_ dl y=OL (at_ dk) (m-i) m j y:=hs.get;unfold xq;simp only [hg];unfold OL
 repeat' split
 all_goals first|rfl|(exfalso;omega)|(congr 1;omega)
theorem Es.right{d dk dl:Array α}{a m b i j:Nat}(h:Es d dk a m b i j)(hs:zZ dk dl (m-i) (m+j-i) i i)(hij:i<j)(ham:a<=m)(hmb:m<=b)(hb:b<=d.size):Es d dl a m b i (j-i):=by
 obtain⟨k1,k2,k3,k4,k5,k6,k7⟩:=h;refine⟨hs.size.trans k1,fun x=> ?_,permIn_trans _ _ _ _ _ k3 (hs.perm a b (by omega) (by omega) (by omega)),by omega,by omega,by omega,by omega⟩;rw [<-k2];have hg:∀y,at_ dl y=OL (at_ dk) (m-i) (m+j-i) i y:=hs.get;unfold xq;simp only [hg];unfold OL
 repeat' split
 all_goals first|rfl|(exfalso;omega)|(congr 1;omega)
theorem Es.last{d dk dl:Array α}{a m b i:Nat}(h:Es d dk a m b i i)(hs:zZ dk dl (m-i) m i i)(ham:a<=m)(hmb:m<=b)(hb:b<=d.size):qO d dl a m b:=by
 obtain⟨k1,k2,k3,k4,k5,k6,k7⟩:=h;refine⟨hs.size.trans k1,fun x=> ?_,permIn_trans _ _ _ _ _ k3 (hs.perm a b (by omega) (by omega) (by omega))⟩;rw [<-k2,hs.get];unfold xq OL
 repeat' split
 all_goals first|rfl|(exfalso;omega)|(congr 1;omega)
theorem qO.up{d dk:Array α}{a k:Nat}(h:qO d dk a (a+1) (k+1))(hak:a<=k)(hk:k+1<d.size):qO d (swp dk k (k+1)) a (a+1) (k+2):=by
 have hs:=h.size;refine⟨by rw [swp_size];exact hs,fun x=> ?_,permIn_trans _ _ _ _ _ (permIn_mono _ _ _ _ _ _ (aj _) (by omega) (by omega) h.perm) (swp_permIn dk a (k+2) k (k+1) (by omega) (by omega) (by omega) (by omega) (by omega))⟩;rw [swp_get _ (by omega) (by omega),h.get,h.get,h.get];unfold xq
 repeat' split
 all_goals first|rfl|(exfalso;omega)|(congr 1;omega)
theorem qO.down{d dk:Array α}{k m:Nat}(h:qO d dk (k+1) m (m+1))(hk:k+1<=m)(hm:m<d.size):qO d (swp dk (k+1) k) k m (m+1):=by
 have hs:=h.size;refine⟨by rw [swp_size];exact hs,fun x=> ?_,permIn_trans _ _ _ _ _ (permIn_mono _ _ _ _ _ _ (by omega) (aj _) (by omega) h.perm) (swp_permIn dk k (m+1) (k+1) k (by omega) (by omega) (by omega) (by omega) (by omega))⟩;rw [swp_get _ (by omega) (by omega),h.get,h.get,h.get];unfold xq
 repeat' split
 all_goals first|rfl|(exfalso;omega)|(congr 1;omega)
def ZJ(lt:α->α->Bool)(d:Array α)(a c b:Nat):Prop:=∀x y,a<=x->x<c->c<=y->y<b->lt d[y]! d[x]! =false
theorem OM{d:Array α}{a c b:Nat}(h1:SortedIn lt a c d)(h2:SortedIn lt c b d)(h3:ZJ lt d a c b):SortedIn lt a b d:=fun i j hi hij hj=>by
 by_cases k1:j<c
 · exact h1 i j hi hij k1
 · by_cases k2:i<c
   · exact h3 i j hi k2 (by omega) hj
   · exact h2 i j (by omega) hij hj
theorem pJ(hO:SWO lt){d:Array α}{a b i j:Nat}(h:SortedIn lt a b d)(hi:a<=i)(hij:i<=j)(hj:j<b):lt d[j]! d[i]! =false:=by
 by_cases e:i=j
 · subst e;exact hO.irrefl _
 · exact h i j hi (by omega) hj
structure iF(lt:α->α->Bool)(d d':Array α)(a b:Nat):Prop where
 perm:PermIn a b d d'
 sorted:SortedIn lt a b d'
theorem iF.size{d d':Array α}{a b:Nat}(h:iF lt d d' a b):d'.size=d.size:=h.perm.1
theorem ZK(hO:SWO lt){d d':Array α}{a b i:Nat}(hb:b<=d.size)(hs:SortedIn lt (a+1) b d)(h1:a+1<=i)(h2:i<=b)
   (hl:∀p,a+1<=p->p<i->lt d[p]! d[a]! =true) (hr:∀p,i<=p->p<b->lt d[p]! d[a]! =false) (h:qO d d' a (a+1) i):iF lt d d' a b:=by
 refine⟨permIn_mono _ _ _ _ _ _ (aj _) h2 hb h.perm,fun p q hp hpq hq=> ?_⟩;rw [h.get,h.get];unfold xq at_;by_cases c1:q<i-1
 · rw [if_pos (by omega),if_pos (by omega)]
   exact hs _ _ (by omega) (by omega) (by omega)
 · rw [if_neg (by omega)]
   by_cases c2:q<i
   · rw [if_pos (by omega),if_pos (by omega),show q-(i-(a+1))=a by omega]
     exact hO.asymmA (hl _ (by omega) (by omega))
   · rw [if_neg (by omega)]
     by_cases c3:p<i-1
     · rw [if_pos (by omega)]
       exact hs _ _ (by omega) (by omega) (by omega)
     · rw [if_neg (by omega)]
       by_cases c4:p<i
       · rw [if_pos (by omega),show p-(i-(a+1))=a by omega]
         exact hr _ (by omega) (by omega)
       · rw [if_neg (by omega)]
         exact hs _ _ (by omega) (by omega) (by omega)
theorem QY(hO:SWO lt){d d':Array α}{a m i:Nat}(hb:m+1<=d.size)(hs:SortedIn lt a m d)(h1:a<=i)(h2:i<=m)
   (hl:∀p,a<=p->p<i->lt d[m]! d[p]! =false) (hr:∀p,i<=p->p<m->lt d[m]! d[p]! =true) (h:qO d d' i m (m+1)):iF lt d d' a (m+1):=by
 refine⟨permIn_mono _ _ _ _ _ _ h1 (aj _) hb h.perm,fun p q hp hpq hq=> ?_⟩;rw [h.get,h.get];unfold xq at_;by_cases c1:q<i
 · rw [if_neg (by omega),if_neg (by omega),if_neg (by omega),if_neg (by omega)]
   exact hs _ _ (by omega) (by omega) (by omega)
 · by_cases c2:q=i
   · rw [if_pos (by omega),if_neg (by omega),if_neg (by omega),show q-i+m=m by omega]
     exact hl _ (by omega) (by omega)
   · rw [if_neg (by omega),if_pos (by omega)]
     by_cases c3:p<i
     · rw [if_neg (by omega),if_neg (by omega)]
       exact hs _ _ (by omega) (by omega) (by omega)
     · by_cases c4:p=i
       · rw [if_pos (by omega),show p-i+m=m by omega]
         exact hO.asymmA (hr _ (by omega) (by omega))
       · rw [if_neg (by omega),if_pos (by omega)]
         exact hs _ _ (by omega) (by omega) (by omega)
structure xY(lt:α->α->Bool)(d:Array α)(a m b lo hi st r:Nat):Prop where
 l1:lo<=st
 l2:st<=r
 l3:r<=hi
 left:st=lo∨lt d[(a+b)/2+m-1-(st-1)]! d[st-1]! =false
 right:r=hi∨lt d[(a+b)/2+m-1-r]! d[r]! =true
theorem xY.start{d:Array α}{a m b lo hi:Nat}(h:lo<=hi):xY lt d a m b lo hi lo hi:=⟨aj _,h,aj _,.inl rfl,.inl rfl⟩
theorem xY.up{d:Array α}{a m b lo hi st r:Nat}(h:xY lt d a m b lo hi st r)(hlt:st<r)(hc:lt d[(a+b)/2+m-1-(st+r)/2]! d[(st+r)/2]! =false):xY lt d a m b lo hi ((st+r)/2+1) r:=
 ⟨by have:=h.l1;omega,by omega,h.l3,.inr (by rw [Nat.add_sub_cancel];exact hc),h.right⟩
theorem xY.down{d:Array α}{a m b lo hi st r:Nat}(h:xY lt d a m b lo hi st r)(hlt:st<r)(hc:lt d[(a+b)/2+m-1-(st+r)/2]! d[(st+r)/2]! =true):xY lt d a m b lo hi st ((st+r)/2):=
 ⟨h.l1,by omega,by have:=h.l3;omega,h.left,.inr hc⟩
def TK(a m b:Nat):Nat:=if(a+b)/2<m then(a+b)/2+m-b else a
def QZ(a m b:Nat):Nat:=if(a+b)/2<m then(a+b)/2 else m
structure aeQ(lt:α->α->Bool)(d:Array α)(a m b st e:Nat):Prop where
 s1:a<=st
 s2:st<=m
 e1:m<=e
 e2:e<=b
 m1:st+(e-m)=(a+b)/2
 m2:(a+b)/2+(m-st)=e
 o1:∀x y,a<=x->x<st->e<=y->y<b->lt d[y]! d[x]! =false
 o2:∀x y,m<=x->x<e->st<=y->y<m->lt d[y]! d[x]! =false
theorem xY.done(hO:SWO lt){d:Array α}{a m b st:Nat}(ham:a<m)(hmb:m<b)(h1:SortedIn lt a m d)(h2:SortedIn lt m b d)(h:xY lt d a m b (TK a m b) (QZ a m b) st st):aeQ lt d a m b st ((a+b)/2+m-st):=by
 obtain⟨l1,-,l3,hl,hr⟩:=h;have hlo:TK a m b=if(a+b)/2<m then(a+b)/2+m-b else a:=rfl
 have hhi:QZ a m b=if(a+b)/2<m then(a+b)/2 else m:=rfl
 have k1:a<=st:=(by rw [hlo]at l1;split at l1<;>omega);have k2:st<=m:=(by rw [hhi]at l3;split at l3<;>omega);have k3:m<=(a+b)/2+m-st:=(by rw [hhi]at l3;split at l3<;>omega);have k4:(a+b)/2+m-st<=b:=(by rw [hlo]at l1;split at l1<;>omega);refine⟨k1,k2,k3,k4,by omega,by omega,fun x y hx hxs hy hyb=> ?_,fun x y hx hxe hy hym=> ?_⟩
 · have hne:st≠TK a m b:=by rw [hlo];split<;>omega
   rcases hl with hl|hl
   · exact absurd hl hne
   · rw [show(a+b)/2+m-1-(st-1)=(a+b)/2+m-st by omega]at hl
     have g1:=pJ hO h1 hx (show x<=st-1 by omega) (by omega);have g2:=pJ hO h2 (show m<=(a+b)/2+m-st by omega) hy hyb;exact hO.ntrans _ _ _ g2 (hO.ntrans _ _ _ hl g1)
 · have hne:st≠QZ a m b:=by rw [hhi];split<;>omega
   rcases hr with hr|hr
   · exact absurd hr hne
   · rw [show(a+b)/2+m-1-st=(a+b)/2+m-st-1 by omega]at hr
     have g1:=pJ hO h2 hx (show x<=(a+b)/2+m-st-1 by omega) (by omega);have g2:=pJ hO h1 k1 hy hym;exact hO.ntrans _ _ _ g2 (hO.ntrans _ _ _ (hO.asymmA hr) g1)
structure ai6(lt:α->α->Bool)(d1:Array α)(a st mid e b:Nat):Prop where
 s1:SortedIn lt a st d1
 s2:SortedIn lt st mid d1
 s3:SortedIn lt mid e d1
 s4:SortedIn lt e b d1
 le:ZJ lt d1 a mid b
theorem aeQ.alV{d d1:Array α}{a m b st e:Nat}(h:aeQ lt d a m b st e)(h1:SortedIn lt a m d)(h2:SortedIn lt m b d)(hr:qO d d1 st m e):ai6 lt d1 a st ((a+b)/2) e b:=by
 obtain⟨k1,k2,k3,k4,k5,k6,o1,o2⟩:=h;have g1:∀x,x<st->d1[x]! =d[x]!:=fun x hx=>by rw [hr.get];unfold xq at_;rw [if_neg (by omega),if_neg (by omega)]
 have g2:∀x,st<=x->x< (a+b)/2->d1[x]! =d[x-st+m]!:=fun x _ hx=>by rw [hr.get];unfold xq at_;rw [if_pos (by omega)]
 have g3:∀x,(a+b)/2<=x->x<e->d1[x]! =d[x-(e-m)]!:=fun x _ hx=>by rw [hr.get];unfold xq at_;rw [if_neg (by omega),if_pos (by omega)]
 have g4:∀x,e<=x->d1[x]! =d[x]!:=fun x hx=>by rw [hr.get];unfold xq at_;rw [if_neg (by omega),if_neg (by omega)]
 refine⟨fun i j hi hij hj=> ?_,fun i j hi hij hj=> ?_,fun i j hi hij hj=> ?_,fun i j hi hij hj=> ?_,fun x y hx hxc hy hyb=> ?_⟩
 · rw [g1 j hj,g1 i (by omega)];exact h1 i j hi hij (by omega)
 · rw [g2 j (by omega) hj,g2 i hi (by omega)];exact h2 _ _ (by omega) (by omega) (by omega)
 · rw [g3 j (by omega) hj,g3 i hi (by omega)];exact h1 _ _ (by omega) (by omega) (by omega)
 · rw [g4 j (by omega),g4 i hi];exact h2 _ _ (by omega) (by omega) (by omega)
 · by_cases c1:x<st
   · rw [g1 x c1]
     by_cases c2:y<e
     · rw [g3 y hy c2];exact h1 _ _ hx (by omega) (by omega)
     · rw [g4 y (by omega)];exact o1 x y hx c1 (by omega) hyb
   · rw [g2 x (by omega) hxc]
     by_cases c2:y<e
     · rw [g3 y hy c2];exact o2 _ _ (by omega) (by omega) (by omega) (by omega)
     · rw [g4 y (by omega)];exact h2 _ _ (by omega) (by omega) (by omega)
theorem Q5{d:Array α}{a c b:Nat}(h1:SortedIn lt a c d)(h2:SortedIn lt c b d)(h:¬ (a<c/\ c<b)):iF lt d d a b:=by
 refine⟨permIn_refl _ _ _,fun i j hi hij hj=> ?_⟩;by_cases k:a<c
 · exact h1 i j hi hij (by omega)
 · exact h2 i j (by omega) hij hj
theorem OO{d d1 d2 d3:Array α}{a b st e mid:Nat}(ham:a<=mid)(hmb:mid<=b)(hb:b<=d.size)(hp:PermIn a b d d1)(h:ai6 lt d1 a st mid e b)(h1:iF lt d1 d2 a mid)(h2:iF lt d2 d3 mid b):iF lt d d3 a b:=by
 have z1:=hp.1;have z2:=h1.perm.1;refine⟨permIn_trans _ _ _ _ _ hp (permIn_trans _ _ _ _ _ (permIn_mono _ _ _ _ _ _ (aj _) hmb (by omega) h1.perm) (permIn_mono _ _ _ _ _ _ ham (aj _) (by omega) h2.perm)), ?_⟩;refine OM (c:=mid) (SortedIn.congr h1.sorted fun i hi hj=>h2.perm.2.1 i (.inl hj)) h2.sorted ?_;have l2:ZJ lt d2 a mid b:=fun x y hx hxc hy hyb=>by
  rw [h1.perm.2.1 y (.inr hy)];exact permIn_all d1 d2 a mid (fun v=>lt d1[y]! v=false) (by omega) h1.perm (fun i hi hj=>h.le i y hi hj hy hyb) x hx hxc
 intro x y hx hxc hy hyb;rw [h2.perm.2.1 x (.inl hxc)];exact permIn_all d2 d3 mid b (fun v=>lt v d2[x]! =false) (by omega) h2.perm (fun i hi hj=>l2 x i hx hxc hi hj) y hy hyb
theorem uo{d d':Array α}{a b c e:Nat}(h:SortedIn lt c e d)(hp:PermIn a b d d')(ho:e<=a∨b<=c):SortedIn lt c e d':=h.congr fun i hi hj=>hp.2.1 i (by omega)
def DJ(lt:α->α->Bool)(s n t:Nat)(d:Array α):Prop:=∀u,t<=u->SortedIn lt (u*s) (min (u*s+s) n) d
def Done(lt:α->α->Bool)(s t:Nat)(d:Array α):Prop:=∀u,u<t->SortedIn lt (u*s) (u*s+s) d
theorem xZ{u t s:Nat}(h:u<t):u*s+s<=t*s:=by
 have:=Nat.mul_le_mul_right s (show u+1<=t from h)
 rwa [Nat.add_mul,Nat.one_mul]at this
theorem Done.step{s t:Nat}{d d':Array α}(h:Done lt s t d)(hm:iF lt d d' (t*s) (t*s+s)):Done lt s (t+1) d':=fun u hu=>by
 by_cases e:u=t
 · subst e;exact hm.sorted
 · exact uo (h u (by omega)) hm.perm (.inl (xZ (by omega)))
theorem Done.whole{s t n:Nat}{d d':Array α}(h:Done lt s t d)(h1:t*s<=n)(hn:n<t*s+s)(hm:iF lt d d' (t*s) n):DJ lt s n 0 d':=fun u _=>by
 by_cases e:u<t
 · have:=xZ (s:=s) e
   rw [Nat.min_eq_left (by omega)];exact uo (h u e) hm.perm (.inl this)
 · by_cases e2:u=t
   · subst e2
     rw [Nat.min_eq_right (by omega)];exact hm.sorted
   · have:=xZ (s:=s) (show t<u by omega)
     intro i j hi hij hj;have:min (u*s+s) n<=n:=Nat.min_le_right _ _;omega
theorem DJ.out{s n t t':Nat}{a b:Nat}{d d':Array α}(h:DJ lt s n t d)(hp:PermIn a b d d')(ht:t<=t')(ho:b<=t'*s):DJ lt s n t' d':=fun u hu=>
 uo (h u (by omega)) hp (.inr (aA ho (Nat.mul_le_mul_right s hu)))
theorem DJ.at_{s n t:Nat}{d:Array α}(h:DJ lt s n t d)(hn:t*s+s<=n):SortedIn lt (t*s) (t*s+s) d:=by
 have:=h t (aj _)
 rwa [Nat.min_eq_left hn]at this
theorem DJ.last{s n t:Nat}{d:Array α}(h:DJ lt s n t d)(hn:n<=t*s+s):SortedIn lt (t*s) n d:=by
 have:=h t (aj _)
 rwa [Nat.min_eq_right hn]at this
theorem DJ.one{s n:Nat}{d:Array α}(h:DJ lt s n 0 d)(hn:n<=s):SortedIn lt 0 n d:=by
 have:=h.last (by omega)
 rwa [Nat.zero_mul]at this
open Go.RowKit Go.Shelf Go.Lib Go.Sort Go.Proofs
variable {α : Type} [Inhabited α]
theorem ZL(k:Nat)(zE:∀w,(Go.sizeOf 145).run Tryz.prog w= .ok k w)(enc:α->List Value)(g:Nat)(cb:Array Value)(blk off cap a b n:Nat)(d0 d:Array α)(w0 w:World)
  (R:RowK enc k w0 blk off d0) (hs:d0.size=d.size) (S:SWK enc k w0 blk off d w) (hab:a+n<=b) (hb:b+n<=d.size) (hsz:d.size<4611686018427387904):
  Calls Tryz.prog 198 #[.slice (some ⟨blk,off,none⟩) d.size cap,.int .i64 (a:Int),.int .i64 (b:Int),.int .i64 (n:Int),.func (.func g) #[] cb] w fun e w'=>e= .returned (.tuple #[])/\ ∃dk,zZ d dk a b n n/\ SWK enc k w0 blk off dk w':=by
 have mixed:Tryz.prog.follows Departure.mixedOrders=true:=(by kernel_rfl);have aE:=Tryz.isAgg145;have S0:Aside (SWK enc k w0 blk off d w):=S;clear S;go_enter Tryz.func198,Tryz.ntmps198;go_wp2
 go_loopg [10] n (fun kx s wr=>∃ (i:Nat) (dk:Array α),s= .int .i64 (i:Int)/\ i<=n/\ n-i<=kx/\ Aside (zZ d dk a b n i)/\ Aside (SWK enc k w0 blk off dk wr))
 case atStart=>exact⟨0,d,rfl,aB _,by omega,zZ.start d a b n,S0⟩
 case round=>
  clear S0;obtain⟨i,dk,rfl,hi,hkx,HP,S1⟩:=hrel;by_cases hlt:i<n
  · have hds:dk.size=d.size:=HP.out.size
    obtain⟨p,hp⟩:∃p:Nat,p=a+i:=⟨_,rfl⟩;obtain⟨q,hq⟩:∃q:Nat,q=b+i:=⟨_,rfl⟩;have wp:IntKind.i64.wrap ((a:Int)+(i:Int))=(p:Int):=(by rw [IntKind.wrap_i64]<;>omega);have wq:IntKind.i64.wrap ((b:Int)+(i:Int))=(q:Int):=(by rw [IntKind.wrap_i64]<;>omega);have hltz:(i:Int)< (n:Int):=(by omega);have ea:((p:Int)).toNat=p:=(by omega);have pa:(0:Int)<=(p:Int):=(by omega);have ba:(p:Int)< (d.size:Int):=(by omega);have ec:((q:Int)).toNat=q:=(by omega);have pc:(0:Int)<=(q:Int):=(by omega);have bc:(q:Int)< (d.size:Int):=(by omega);have Q7:p<dk.size:=(by omega);have Wn:q<dk.size:=(by omega);have S2:Aside (SWK enc k w0 blk off (swp dk p q) ((wr.drew.setCells blk (off+p*k) (enc dk[q]!)).setCells blk (off+q*k) (enc dk[p]!))):=S1.out.swapped R p q Q7 Wn;have HP2:Aside (zZ d (swp dk p q) a b n (i+1)):=by
     show zZ _ _ _ _ _ _
     rw [hp,hq];exact HP.out.step hlt hab hb
    have la:=S1.out.ld1 R (by omega) Tryz.prog p Q7;have lb:=S1.out.ld1 R (by omega) Tryz.prog q Wn;have sa:=S1.out.st1 R (by omega) Tryz.prog p Q7 dk[q]!;have sb:=S1.out.st2 R (by omega) Tryz.prog p q Q7 Wn dk[q]! dk[p]!;have na:(enc dk[p]!).length=k:=R.hk _;have nb:(enc dk[q]!).length=k:=R.hk _
    generalize enc dk[p]! =cI at S2 la sb na
    generalize enc dk[q]! =cJ at S2 lb sb sa nb
    have Hpq:Aside (p=a+i/\ q=b+i):=⟨hp,hq⟩;clear S1 HP hp hq Q7 Wn hds;go_wp2_with fail
    go_big_region_o
    clear la lb sa sb
    generalize (wr.drew.setCells blk (off+p*k) cJ).setCells blk (off+q*k) cI=w2 at S2⊢
    go_wp2
    go_roundg (n-(i+1))
    case measure=>omega
    case rel=>exact⟨i+1,swp dk p q,by first|rfl|go_num,hlt,aj _,HP2,S2⟩
  · obtain rfl:i=n:=by omega
    go_wp2
    go_end0;exact⟨rfl,dk,HP.out,S1.out⟩
theorem ai7(k:Nat)(zE:∀w,(Go.sizeOf 145).run Tryz.prog w= .ok k w)(enc:α->List Value)(g:Nat)(cb:Array Value)(blk off cap a m b:Nat)(d0 d:Array α)(w0 w:World)
  (R:RowK enc k w0 blk off d0) (hs:d0.size=d.size) (S:SWK enc k w0 blk off d w) (ham:a<m) (hmb:m<b) (hb:b<=d.size) (hsz:d.size<4611686018427387904):
  Calls Tryz.prog 194 #[.slice (some ⟨blk,off,none⟩) d.size cap,.int .i64 (a:Int),.int .i64 (m:Int),.int .i64 (b:Int),.func (.func g) #[] cb] w fun e w'=>e= .returned (.tuple #[])/\ ∃dk,qO d dk a m b/\ SWK enc k w0 blk off dk w':=by
 have S0:Aside (SWK enc k w0 blk off d w):=S;clear S;go_enter Tryz.func194,Tryz.ntmps194;go_wp2
 go_loopg [10,11] (m-a+(b-m)) (fun kx s1 s2 wr=>∃ (i j:Nat) (dk:Array α),s1= .int .i64 (i:Int)/\ s2= .int .i64 (j:Int)/\ i+j<=kx/\ 0<i/\ 0<j/\ i<=m-a/\ j<=b-m/\ dk.size=d.size/\ Aside (Es d dk a m b i j)/\ Aside (SWK enc k w0 blk off dk wr))
 case atStart=>exact⟨m-a,b-m,d,by first|rfl|go_num|(congr 1;omega),by first|rfl|go_num|(congr 1;omega),aj _,by omega,by omega,aj _,aj _,rfl,Es.start d ham hmb,S0⟩
 case round=>
  clear S0;obtain⟨i,j,dk,rfl,rfl,hkx,hi0,hj0,him,hjm,hds,HP,S1⟩:=hrel;by_cases hij:i=j
  · subst hij
    have hc:=ZL k zE enc g cb blk off cap (m-i) m i d0 dk w0 wr R (by omega) S1.out (by omega) (by omega) (by omega);rw [show((m-i:Nat):Int)=(m:Int)-(i:Int) by omega,hds]at hc;have HC:=ah hc;clear hc S1;go_wp2_with(go_at_call 198;refine HC.out.mono ?_;rintro e w1 ⟨rfl,dl,hsw,hS⟩)
    go_end0;exact⟨rfl,dl,HP.out.last hsw (by omega) (by omega) hb,hS⟩
  · by_cases hlt:j<i
    · have hltz:(j:Int)< (i:Int):=by omega
      have hne:¬ (i:Int)=(j:Int):=(by omega);have hc:=ZL k zE enc g cb blk off cap (m-i) m j d0 dk w0 wr R (by omega) S1.out (by omega) (by omega) (by omega);rw [show((m-i:Nat):Int)=(m:Int)-(i:Int) by omega,hds]at hc;have HC:=ah hc;clear hc S1;go_wp2_with(go_at_call 198;refine HC.out.mono ?_;rintro e w1 ⟨rfl,dl,hsw,hS⟩;have HS:Aside (SWK enc k w0 blk off dl w1):=hS;have HW:Aside (zZ dk dl (m-i) m j j):=hsw;clear hS hsw)
      go_roundg (i-j+j)
      case measure=>omega
      case rel=>
       have h2:=HP.out.left HW.out hlt (by omega) (by omega) hb;exact⟨i-j,j,dl,by first|rfl|go_num|(congr 1;omega),rfl,aj _,by omega,hj0,by omega,hjm,h2.size,h2,HS⟩
    · have hlt':i<j:=by omega
      have hltz:¬ (j:Int)< (i:Int):=(by omega);have hne:¬ (i:Int)=(j:Int):=(by omega);have hc:=ZL k zE enc g cb blk off cap (m-i) (m+j-i) i d0 dk w0 wr R (by omega) S1.out (by omega) (by omega) (by omega);rw [show((m-i:Nat):Int)=(m:Int)-(i:Int) by omega,show((m+j-i:Nat):Int)=(m:Int)+(j:Int)-(i:Int) by omega,hds]at hc;have HC:=ah hc;clear hc S1;go_wp2_with(go_at_call 198;refine HC.out.mono ?_;rintro e w1 ⟨rfl,dl,hsw,hS⟩;have HS:Aside (SWK enc k w0 blk off dl w1):=hS;have HW:Aside (zZ dk dl (m-i) (m+j-i) i i):=hsw;clear hS hsw)
      go_roundg (i+(j-i))
      case measure=>omega
      case rel=>
       have h2:=HP.out.right HW.out hlt' (by omega) (by omega) hb;exact⟨i,j-i,dl,rfl,by first|rfl|go_num|(congr 1;omega),aj _,hi0,by omega,him,by omega,h2.size,h2,HS⟩
end Go.Proofs.YtkaipknkjocfiaaGreat
