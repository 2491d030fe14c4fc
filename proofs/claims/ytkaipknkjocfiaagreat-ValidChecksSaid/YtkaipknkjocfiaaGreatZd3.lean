import Derived.Test.YtkaipknkjocfiaaGreatZd2
set_option maxRecDepth 100000
set_option maxHeartbeats 64000000
namespace Go.Proofs.YtkaipknkjocfiaaGreat
open Go.RowKit
attribute [local go_sem ↓ high] oZ
def BA(x:Gs):Bool:=decide (x.wins.length<=20)&&(decide (x.dG.length<=20)&&(decide (x.cO.length<=70)&&(decide (x.strs.length<=40)&&decide (x.name.length<=100))))
def qU(c:Cf):Bool:=decide (c.gs.length<=20)&&(decide (c.dH.length<=40)&&c.gs.all BA)
theorem iI{c:Cf}(h:qU c=true):c.gs.length<=20/\ c.dH.length<=40/\ ∀g∈c.gs,BA g=true:=by
 unfold qU at h;simp only [Bool.and_eq_true,decide_eq_true_eq,List.all_eq_true]at h;exact h
theorem jZ{g:Gs}(h:BA g=true):g.wins.length<=20/\ g.dG.length<=20/\ g.cO.length<=70/\ g.strs.length<=40/\ g.name.length<=100:=by
 unfold BA at h;simp only [Bool.and_eq_true,decide_eq_true_eq]at h;exact h
theorem Za{α:Type}(f:α->Bool)(l:List α)(k:Nat)(h:k<l.length)(hp:(l.take k).all f=true)(hf:f l[k]=true):(l.take (k+1)).all f=true:=by
 rw [List.take_add_one,aF h,List.all_append,hp];simp [hf]
theorem abn{α:Type}(f:α->Bool)(l:List α)(k:Nat)(h:k<l.length)(hf:f l[k]=false):l.all f=false:=by
 rw [<-Bool.not_eq_true];intro hh;have:=List.all_eq_true.1 hh _ (ay h);rw [hf]at this;cases this
def abl(b:Bool)(w:World)(e:Ending)(w':World):Prop:=e= .returned (.bool b)/\ Below w.heap.size w w'
theorem abm(x:Cf)(a c:Value)(w:World)(hx:Ai w w.heap.size x a c):Calls Tryz.prog 9 #[ji x a c] w (abl (qU x) w):=by
 obtain⟨V,hV⟩:=aqx (w.alloc (.cells (vec 3 (eX x.ver a c)) 31));have k1:aU V w.heap.size 31 3 (eX x.ver a c):=(by rw [hV];exact aU.new w _ _ _);have hB:Below w.heap.size w V:=(by rw [hV];exact(aC _ _).alloc (aj _) _);obtain⟨x0,x1,x2⟩:=vF k1;obtain⟨⟨A,d,ys,rfl,hm,hr,hl⟩,⟨A2,d2,rfl,hr2,hl2⟩⟩:=hx.up hB;have hlen:x.gs.length=ys.length:=(by rw [<-hm,List.length_map]);obtain⟨G,hG⟩:=aqx (qU x);have hall:x.gs.all BA=ys.all fun y=>BA y.g:=(by rw [<-hm,List.all_map];rfl);have OT:Hid (G=(decide (x.gs.length<=20)&&(decide (x.dH.length<=40)&&ys.all fun y=>BA y.g))):=ah (by rw [hG, <-hall];rfl);rw [<-hG];unfold ji abl;obtain⟨N,hN⟩:=aqx (x.gs.length);obtain⟨M,hM⟩:=aqx (x.dH.length);rw [<-hN]at x1 hl hV OT⊢;rw [<-hM]at x2 hl2 hV OT⊢;have Io:Hid (N=ys.length):=ah (by rw [hN,hlen]);have HR:=ah hr;have HK:=ah hB;have HW:=ah hV;clear hV k1 hB hr hr2 hx hm hlen hG hall hN hM;go_enter Tryz.func9,Tryz.ntmps9;go_upto_region 1 with fail
 rw [<-HW.out];clear HW;by_cases c1:20<N
 · have HF:Hid (G=false):=ah (by rw [OT.out,decide_eq_false (by omega)];rfl)
   have c1:(20:Int)< (N:Int):=(by omega);go_wp2_with fail
   go_ret;exact⟨by rw [HF.out];rfl,HK.out⟩
 by_cases c2:40<M
 · have HF:Hid (G=false):=ah (by rw [OT.out,decide_eq_false (p:=M<=40) (by omega)];simp)
   have c1:¬ (20:Int)< (N:Int):=(by omega);have c2:(40:Int)< (M:Int):=(by omega);go_wp2_with fail
   go_ret;exact⟨by rw [HF.out];rfl,HK.out⟩
 have Le:Hid (G=ys.all fun y=>BA y.g):=ah (by rw [OT.out,decide_eq_true (by omega),decide_eq_true (p:=M<=40) (by omega)];rfl);clear OT;have d1:¬ (20:Int)< (N:Int):=(by omega);have d2:¬ (40:Int)< (M:Int):=(by omega);go_upto_region 3 with fail
 clear c1 c2 d1 d2;have HX1:=ah x1;go_wp2_with fail
 go_loopw [4,18] (fun _ v W=>∃k:Nat,k<=N/\ v= .int .i64 k/\ Hid ((ys.take k).all (fun y=>BA y.g)=true)/\ Hid (Below V.heap.size V W)) (fun _ i _=>N-(intOf i).toNat)
 case atStart=>exact⟨0,aB _,rfl,ah rfl,ah (aC _ _)⟩
 case round=>
   obtain⟨k,hk,rfl,Ap,HB⟩:=hrel;obtain⟨W,hW⟩:=aqx wr;subst hW;by_cases hlt0:k<N
   · have hlt:k<ys.length:=by have:=Io.out;omega
     have g1:=HR.out.up HB.out;obtain⟨a,p,rfl,hp,-,hcp⟩:=g1.row.at hlt;obtain⟨y,hy⟩:=aqx (ys[k]);rw [<-hy]at hcp;have ry:qI W W.heap.size y:=(by rw [hy];exact g1.all _ (ay _));have qR:Hid (BA y.g=false->G=false):=ah (fun h=>by rw [Le.out];exact abn _ _ _ hlt (by rw [<-hy];exact h));have je:Hid (BA y.g=true->(ys.take (k+1)).all (fun y=>BA y.g)=true):=ah (fun h=>Za _ _ _ hlt Ap.out (by rw [<-hy];exact h));have h1:=ry.one;have hki:(k:Int)< (N:Int):=(by omega);obtain⟨X,hX⟩:=aqx ((W.alloc (.cells (vec 79 (aT vw)) 63)).setRow W.heap.size (vec 79 (aT y)));have b1:Below W.heap.size W X:=(by rw [hX];exact bg ((aC _ _).alloc (aj _) _) (aj _) _);have a1:aU X W.heap.size 63 79 (aT y):=(by rw [hX];exact(aU.new W _ _ _).row _);have fU:=ah (HB.out.trans (b1.mono HB.out.size));have gI:=ah hcp;have HX:=ah hX;have HA:=ah a1;have HRY:=ah ry;have Ig:=ah h1;clear g1 hcp ry hy hlt h1 hX b1 a1;go_upto_region 6 with(first
       |((with_reducible refine aqy (.load _ _) ?_);refine bC rfl 63 _ rfl p rfl _ (aW gI.out Tryz.underlying63 rfl dU) ?_)
       |((with_reducible refine aqy (.store _ _ _) ?_);refine bD rfl 63 _ _ rfl _ rfl _ rfl (aS (aU.new W _ _ _) (aT y) dU (fC _ Ig.out _)) ?_))
     rw [<-HX.out];clear HX gI;obtain⟨⟨A1,e1,f1,_,_⟩,⟨A2,e2,f2,_,_⟩,⟨A3,e3,f3,_,_⟩,⟨A4,e4,f4,_,_⟩⟩:=HRY.out;have y0:X.cell? ⟨W.heap.size,0,none⟩=some (.string (strOf y.g.name)):=HA.out.cell (i:=0) (by decide);have y1:X.cell? ⟨W.heap.size,75,none⟩=some (.slice A1 y.g.wins.length e1):=f1▸HA.out.cell (i:=75) (by decide);have y2:X.cell? ⟨W.heap.size,76,none⟩=some (.slice A2 y.g.dG.length e2):=f2▸HA.out.cell (i:=76) (by decide);have y3:X.cell? ⟨W.heap.size,77,none⟩=some (.slice A3 y.g.cO.length e3):=f3▸HA.out.cell (i:=77) (by decide);have y4:X.cell? ⟨W.heap.size,78,none⟩=some (.slice A4 y.g.strs.length e4):=f4▸HA.out.cell (i:=78) (by decide);have hsz:(strOf y.g.name).size=y.g.name.length:=oP _;obtain⟨S,hS⟩:=aqx (strOf y.g.name);rw [<-hS]at y0 hsz;obtain⟨n0,q0⟩:=aqx (y.g.name.length);obtain⟨n1,q1⟩:=aqx (y.g.wins.length);obtain⟨n2,q2⟩:=aqx (y.g.dG.length);obtain⟨n3,q3⟩:=aqx (y.g.cO.length);obtain⟨n4,q4⟩:=aqx (y.g.strs.length);have HE:Hid (BA y.g=(decide (n1<=20)&&(decide (n2<=20)&&(decide (n3<=70)&&(decide (n4<=40)&&decide (n0<=100)))))):=ah (by rw [q0,q1,q2,q3,q4];rfl);rw [<-q0]at hsz;rw [<-q1]at y1;rw [<-q2]at y2;rw [<-q3]at y3;rw [<-q4]at y4;clear q0 q1 q2 q3 q4 hS f1 f2 f3 f4;by_cases t1:20<n1
     · have HF:Hid (G=false):=ah (qR.out (by rw [HE.out,decide_eq_false (by omega)];rfl))
       have t1:(20:Int)< (n1:Int):=(by omega);go_wp2_with fail
       go_ret;exact⟨by rw [HF.out];rfl,HK.out.trans (fU.out.mono HK.out.size)⟩
     by_cases t2:20<n2
     · have HF:Hid (G=false):=ah (qR.out (by rw [HE.out,decide_eq_false (p:=n2<=20) (by omega)];simp))
       have t1:¬ (20:Int)< (n1:Int):=(by omega);have t2:(20:Int)< (n2:Int):=(by omega);go_wp2_with fail
       go_ret;exact⟨by rw [HF.out];rfl,HK.out.trans (fU.out.mono HK.out.size)⟩
     by_cases t3:70<n3
     · have HF:Hid (G=false):=ah (qR.out (by rw [HE.out,decide_eq_false (p:=n3<=70) (by omega)];simp))
       have t1:¬ (20:Int)< (n1:Int):=(by omega);have t2:¬ (20:Int)< (n2:Int):=(by omega);have t3:(70:Int)< (n3:Int):=(by omega);go_wp2_with fail
       go_ret;exact⟨by rw [HF.out];rfl,HK.out.trans (fU.out.mono HK.out.size)⟩
     by_cases t4:40<n4
     · have HF:Hid (G=false):=ah (qR.out (by rw [HE.out,decide_eq_false (p:=n4<=40) (by omega)];simp))
       have t1:¬ (20:Int)< (n1:Int):=(by omega);have t2:¬ (20:Int)< (n2:Int):=(by omega);have t3:¬ (70:Int)< (n3:Int):=(by omega);have t4:(40:Int)< (n4:Int):=(by omega);go_wp2_with fail
       go_ret;exact⟨by rw [HF.out];rfl,HK.out.trans (fU.out.mono HK.out.size)⟩
     by_cases t5:100<n0
     · have HF:Hid (G=false):=ah (qR.out (by rw [HE.out,decide_eq_false (p:=n0<=100) (by omega)];simp))
       have t1:¬ (20:Int)< (n1:Int):=(by omega);have t2:¬ (20:Int)< (n2:Int):=(by omega);have t3:¬ (70:Int)< (n3:Int):=(by omega);have t4:¬ (40:Int)< (n4:Int):=(by omega);have t5:(100:Int)< (n0:Int):=(by omega);go_wp2_with fail
       go_ret;exact⟨by rw [HF.out];rfl,HK.out.trans (fU.out.mono HK.out.size)⟩
     have HS:=ah (je.out (by rw [HE.out,decide_eq_true (by omega),decide_eq_true (p:=n2<=20) (by omega),decide_eq_true (p:=n3<=70) (by omega),decide_eq_true (p:=n4<=40) (by omega),decide_eq_true (p:=n0<=100) (by omega)];rfl));have d1:¬ (20:Int)< (n1:Int):=(by omega);have d2:¬ (20:Int)< (n2:Int):=(by omega);have d3:¬ (70:Int)< (n3:Int):=(by omega);have d4:¬ (40:Int)< (n4:Int):=(by omega);have d5:¬ (100:Int)< (n0:Int):=(by omega);go_wp2_with fail
     go_roundw
     case rel=>exact⟨k+1,by omega,by go_num,HS,fU⟩
     case measure=>simp [intOf];omega
   · obtain rfl:k=N:=by omega
     have HF:Hid (G=true):=ah (by rw [Le.out];have h:=Ap.out;rw [Io.out,List.take_length]at h;exact h);clear hlt0;go_wp2_with fail
     go_ret;exact⟨by rw [HF.out];rfl,HK.out.trans (HB.out.mono HK.out.size)⟩
open Go.RowKit
theorem xG{x:Cf}{a c:Value}{V:World}(hx:Ai V V.heap.size x a c):∃ (A:Option Addr) (d:Nat) (A2:Option Addr) (d2:Nat),a= .slice A x.gs.length d/\ c= .slice A2 x.dH.length d2/\ (∀Y,Below V.heap.size V Y->bI 8 kJ Y Y.heap.size A2 x.dH)/\
  ∀i (hi:i<x.gs.length),∃ (a0 q:Addr) (A1:Option Addr) (e1:Nat) (A3:Option Addr) (e3:Nat),A=some a0/\ a0.add (i*79)=q/\ ∀Y,Below V.heap.size V Y->(Y.cell? ⟨q.block,q.off+75,none⟩=some (.slice A1 (x.gs[i]).wins.length e1)/\ Y.cell? ⟨q.block,q.off+76,none⟩=some (.slice A3 (x.gs[i]).dG.length e3))/\ bI 4 bG Y Y.heap.size A1 (x.gs[i]).wins/\ bI 3 iC Y Y.heap.size A3 (x.gs[i]).dG:=by
 obtain⟨⟨A,d,ys,rfl,hm,hr,-⟩,⟨A2,d2,rfl,hr2,-⟩⟩:=hx;refine⟨A,d,A2,d2,rfl,rfl,fun Y hY=>hr2.up hY,fun i hi=> ?_⟩;have hlen:ys.length=x.gs.length:=(by rw [<-hm,List.length_map]);have hiy:i<ys.length:=(by omega);have hg:ys[i].g=x.gs[i]:=(by simp [<-hm]);obtain⟨a0,q,rfl,hq,-,-⟩:=hr.row.at hiy;obtain⟨⟨A1,e1,f1,r1,-⟩,⟨A3,e3,f3,r3,-⟩,-,-⟩:=hr.all _ (ay hiy);rw [hg]at f1 f3 r1 r3;refine⟨a0,q,A1,e1,A3,e3,rfl,hq,fun Y hY=> ?_⟩;obtain⟨a',q',ea,hq',-,hcp⟩:=(hr.up hY).row.at hiy;injection ea with ea
 subst ea;rw [hq]at hq';subst hq';have z1:=hcp 75 (by decide);have z2:=hcp 76 (by decide);have w1:aT ys[i] 75=ys[i].wv:=rfl;have w2:aT ys[i] 76=ys[i].dv:=rfl;rw [w1,f1]at z1;rw [w2,f3]at z2;exact⟨⟨z1,z2⟩,r1.up hY,r3.up hY⟩
theorem qH:(Tryz.prog.info? 24).map (fun i=>(i.zero,i.size,i.bytes))=some (some (.agg (vec 2 (bQ (0,0)))),2,16):=by kernel_rfl
theorem oV(x:Sp)(w:World):(Instr.buildSlice 40 1 #[(0,.agg (vec 2 (bQ x)))]).run Tryz.prog w= .ok (.slice (some ⟨w.heap.size,0,none⟩) 1 1) (w.alloc (.cells (vec 2 (bQ x)) 24)):=by
 obtain⟨i0,hi,hz0,hz1,hz2⟩:=info_parts qH;refine run_buildSlice (P:=Tryz.prog) w 40 24 1 _ _ i0 (.agg (vec 2 (bQ (0,0)))) Tryz.underlying40 hi hz0 (by rw [hz1];decide) (by rw [hz1];decide) ?_;rw [hz1]
 kernel_rfl
abbrev nM(w:World)(base:Nat)(v:Value)(l:List Sp):Prop:=gW 24 2 bQ w base v l
theorem OC{w:World}{base:Nat}{v:Value}{l:List Sp}(x:Sp)(hown:nM w base v l)(hb:base<=w.heap.size)(hl:l.length<=1000000):
  ∃B d w',(uZ #[40,40] 40 #[v,.slice (some ⟨w.heap.size,0,none⟩) 1 1]).run Tryz.prog (w.alloc (.cells (vec 2 (bQ x)) 24))= .ok (.slice B (l.length+1) d) w'/\ nM w' base (.slice B (l.length+1) d) (l++ [x])/\ Below base w w':=
 abW (P:=Tryz.prog) Tryz.underlying40 qH (iR _ _) (by decide) (fun x=>kP x 2) x hown hb hl (by decide) 40
def xP(l:List Sp)(w:World)(e:Ending)(w':World):Prop:=∃v,e= .returned v/\ nM w' w.heap.size v l/\ Below w.heap.size w w'
open Go.RowKit
theorem EN(a b p:Nat)(hx:fit (a,b))(w:World):
 Calls Tryz.prog 84 #[.agg #[.int .u64 (a:Int),.int .u64 (b:Int)],.int .u64 (p:Int)] w fun e w'=>e= .returned (.bool (has (a,b) p))/\ Below w.heap.size w w':=abd a b p hx w
theorem VE(a b c d:Nat)(h:good (a,b)=true):within (a,b) (c,d)=(has (c,d) a&&has (c,d) (last (a,b))):=by
 have hl:=lX h;have hg:=(iq _).1 h;simp only at hl hg;rw [Bool.eq_iff_iff];simp only [within,has,h,Bool.true_and,Bool.and_eq_true,decide_eq_true_eq]
 constructor
 · rintro⟨h1,h2,h3⟩;exact⟨⟨h1,by omega,by omega⟩,h1,by omega,by omega⟩
 · rintro⟨⟨h1,h2,h3⟩,h4,h5,h6⟩;exact⟨h1,by omega,by omega⟩
theorem GZ(a b c d:Nat)(hx:fit (a,b))(hy:fit (c,d))(w:World):
   Calls Tryz.prog 69 #[.agg #[.int .u64 (a:Int),.int .u64 (b:Int)],.agg #[.int .u64 (c:Int),.int .u64 (d:Int)]] w fun e w'=>e= .returned (.bool (within (a,b) (c,d)))/\ Below w.heap.size w w':=by
 have Hx:=ah hx;have Hy:=ah hy;by_cases h:good (a,b)=true
 · rw [VE a b c d h]
   by_cases h1:has (c,d) a=true
   · rw [h1,Bool.true_and]
     go_enter Tryz.func69,Tryz.ntmps69;go_wp2
     refine wp_region_held_drew (S:=fun W=>Below w.heap.size w W/\ W.cell? ⟨w.heap.size,0,none⟩=some (.int .u64 (a:Int))/\ W.cell? ⟨w.heap.size,1,none⟩=some (.int .u64 (b:Int))/\ W.cell? ⟨w.heap.size+1,0,none⟩=some (.int .u64 (c:Int))/\ W.cell? ⟨w.heap.size+1,1,none⟩=some (.int .u64 (d:Int))) (by kernel_rfl) (fD w a b c d _ rfl) (fun hS=> ?_);refine tA 0 ?_;refine oQ 1 fun K1 hK1=> ?_;go_simp;refine(l7 a b Hx.out _).mono ?_;rintro e w1 ⟨rfl,hd⟩;refine hK1 _ _ (fV hd hS) (fun hS1=> ?_);clear hS hd hK1 K1;refine tA 2 ?_;refine tA 3 ?_;refine tA 4 ?_;refine tA 5 ?_;refine oQ 6 fun K6 hK6=> ?_;go_simp;refine(EN c d a Hy.out _).mono ?_;rintro e w1 ⟨rfl,hd⟩;refine hK6 _ _ (fV hd hS1) (fun hS6=> ?_);clear hS1 hd hK6 K6;refine tA 7 ?_;refine tA 8 ?_;refine tA 9 ?_;refine tA 10 ?_;refine oQ 11 fun nN dN=> ?_;go_simp;refine(um a b Hx.out _).mono ?_;rintro e w1 ⟨rfl,hd⟩;refine dN _ _ (fV hd hS6) (fun dB=> ?_);clear hS6 hd dN nN;refine oQ 12 fun wU jk=> ?_;go_simp;refine(EN c d (last (a,b)) Hy.out _).mono ?_;rintro e w1 ⟨rfl,hd⟩;refine jk _ _ (fV hd dB) (fun jl=> ?_);clear dB hd jk wU;refine tA 13 ?_;refine tA 14 ?_;refine wpAnyH_done (by kernel_rfl) ?_ _;go_wp2
     go_ret;exact⟨rfl,jl.1⟩
   · have h1':has (c,d) a=false:=by simpa using h1
     clear h1;rw [h1',Bool.false_and];go_enter Tryz.func69,Tryz.ntmps69;go_wp2
     refine wp_region_held_drew (S:=fun W=>Below w.heap.size w W/\ W.cell? ⟨w.heap.size,0,none⟩=some (.int .u64 (a:Int))/\ W.cell? ⟨w.heap.size,1,none⟩=some (.int .u64 (b:Int))/\ W.cell? ⟨w.heap.size+1,0,none⟩=some (.int .u64 (c:Int))/\ W.cell? ⟨w.heap.size+1,1,none⟩=some (.int .u64 (d:Int))) (by kernel_rfl) (fD w a b c d _ rfl) (fun hS=> ?_);refine tA 0 ?_;refine oQ 1 fun K1 hK1=> ?_;go_simp;refine(l7 a b Hx.out _).mono ?_;rintro e w1 ⟨rfl,hd⟩;refine hK1 _ _ (fV hd hS) (fun hS1=> ?_);clear hS hd hK1 K1;refine tA 2 ?_;refine tA 3 ?_;refine tA 4 ?_;refine tA 5 ?_;refine oQ 6 fun K6 hK6=> ?_;go_simp;refine(EN c d a Hy.out _).mono ?_;rintro e w1 ⟨rfl,hd⟩;refine hK6 _ _ (fV hd hS1) (fun hS6=> ?_);clear hS1 hd hK6 K6;refine tA 7 ?_;refine tA 8 ?_;refine sQ 9 ?_;refine sQ 10 ?_;refine sQ 11 ?_;refine sQ 12 ?_;refine tA 13 ?_;refine tA 14 ?_;refine wpAnyH_done (by kernel_rfl) ?_ _;go_wp2
     go_ret;exact⟨rfl,hS6.1⟩
 · have h':good (a,b)=false:=by simpa using h
   clear h;rw [show within (a,b) (c,d)=false from by simp [within,h']];go_enter Tryz.func69,Tryz.ntmps69;go_wp2
   refine wp_region_held_drew (S:=fun W=>Below w.heap.size w W/\ W.cell? ⟨w.heap.size,0,none⟩=some (.int .u64 (a:Int))/\ W.cell? ⟨w.heap.size,1,none⟩=some (.int .u64 (b:Int))/\ W.cell? ⟨w.heap.size+1,0,none⟩=some (.int .u64 (c:Int))/\ W.cell? ⟨w.heap.size+1,1,none⟩=some (.int .u64 (d:Int))) (by kernel_rfl) (fD w a b c d _ rfl) (fun hS=> ?_);refine tA 0 ?_;refine oQ 1 fun K1 hK1=> ?_;go_simp;refine(l7 a b Hx.out _).mono ?_;rintro e w1 ⟨rfl,hd⟩;refine hK1 _ _ (fV hd hS) (fun hS1=> ?_);clear hS hd hK1 K1;refine tA 2 ?_;refine sQ 3 ?_;refine sQ 4 ?_;refine sQ 5 ?_;refine sQ 6 ?_;refine tA 7 ?_;refine tA 8 ?_;refine sQ 9 ?_;refine sQ 10 ?_;refine sQ 11 ?_;refine sQ 12 ?_;refine tA 13 ?_;refine tA 14 ?_;refine wpAnyH_done (by kernel_rfl) ?_ _;go_wp2
   go_ret;exact⟨rfl,hS1.1⟩
open Go.RowKit
def aiB(a b:Nat):Array Value:= #[.int .u64 (a:Int),.int .u64 (b:Int)]
theorem abo(w:World)(a b:Nat):Row (w.alloc (Df a b)) (w.heap.size+1) (some ⟨w.heap.size,0,none⟩) [(a,b)]:=fun _=>
 ⟨_,rfl,Nat.lt_succ_self _,fun j hj=>by
  simp only [List.length_cons,List.length_nil]at hj;obtain rfl:j=0:=by omega
  refine⟨?_, ?_⟩<;>simp [Addr.add]⟩
theorem Zb(a b:Nat)(hx:fit (a,b))(w:World)(g:Nat)(hg:g=w.heap.size):
  Calls Tryz.prog 68 #[.slice (some ⟨g,0,none⟩) 1 1] (w.alloc (Df a b)) fun e w'=>e= .returned (.bool (eG (a,b)))/\ Below w.heap.size w w':=by
 subst hg;have h:=Jv (some ⟨w.heap.size,0,none⟩) 1 [(a,b)] (by simp) (fun x hx'=>by simp only [List.mem_cons,List.not_mem_nil,or_false]at hx';subst hx';exact hx) (w.alloc (Df a b)) ((abo w a b).wide (by simp));have e: [(a,b)].all eG=eG (a,b):=(by simp);rw [e]at h;exact h.mono fun e w' ⟨h1,h2⟩=>⟨h1,((aC _ w).alloc (aj _) _).trans (h2.mono (by simp))⟩
def Ea(r:Sp):Bool:=eG r&&decide (last r<1099511627776)
theorem Iw(a b:Nat)(hx:fit (a,b))(w:World):
  Calls Tryz.prog 67 #[.agg #[.int .u64 (a:Int),.int .u64 (b:Int)]] w fun e w'=>e= .returned (.bool (Ea (a,b)))/\ Below w.heap.size w w':=by
 have hb:Below w.heap.size w (w.alloc (Df a b)):=(aC _ _).alloc (aj _) _;have hp:=Zb a b hx (w.alloc (Df a b)) (w.heap.size+1) (by simp);obtain⟨z,hz⟩:=aqx (Ea (a,b));obtain⟨l,hl⟩:=aqx (last (a,b));have HL:Hid (∀W,Calls Tryz.prog 105 #[.agg #[.int .u64 (a:Int),.int .u64 (b:Int)]] W fun e w'=>e= .returned (.int .u64 (l:Int))/\ Below W.heap.size W w'):=ah fun W=>by rw [hl];exact um a b hx W
 have l9:Hid (∀v,Below (w.alloc (Df a b)).heap.size (w.alloc (Df a b)) v->v.cell? ⟨w.heap.size,0,none⟩=some (.int .u64 (a:Int))/\ v.cell? ⟨w.heap.size,1,none⟩=some (.int .u64 (b:Int))):=ah fun v hv=>by
  have h:fB v w.heap.size 24 (aiB a b):=fB.under (fB.new _ _ _ rfl) hv;exact⟨h.cellAt 0 rfl,h.cellAt 1 rfl⟩
 have HB:=ah hb;rw [<-hz];cases hpg:eG (a,b)with
 |false=>
  rw [hpg]at hp;have hz0:z=false:=(by rw [hz];unfold Ea;rw [hpg];rfl);subst hz0;have HP:=ah hp;clear hp hz hl hpg hx hb;go_enter Tryz.func67,Tryz.ntmps67;go_wp2_with(go_at_call 68;refine HP.out.mono ?_;rintro e w1 ⟨rfl,hd⟩;have HD:=ah hd;clear hd)
  go_ret;exact⟨rfl,HB.out.trans (HD.out.mono HB.out.size)⟩
 |true=>
  rw [hpg]at hp;have HP:=ah hp;by_cases hlt:l<1099511627776
  · have hz0:z=true:=by rw [hz];unfold Ea;rw [hpg, <-hl,decide_eq_true hlt];rfl
    subst hz0;have hlt':(l:Int)<1099511627776:=(by omega);clear hp hz hl hpg hx hb hlt;go_enter Tryz.func67,Tryz.ntmps67;go_wp2_with(first
     |(go_at_call 68;refine HP.out.mono ?_;rintro e w1 ⟨rfl,hd⟩;have HD:=ah hd;obtain⟨c0,c1⟩:=l9.out w1 hd;clear hd)
     |(go_at_call 105;refine(HL.out _).mono ?_;rintro e w2 ⟨rfl,hd⟩;have HD2:=ah hd;clear hd))
    go_ret;have h3:=HB.out.trans (HD.out.mono HB.out.size);exact⟨rfl,h3.trans (HD2.out.mono h3.size)⟩
  · have hz0:z=false:=by rw [hz];unfold Ea;rw [hpg, <-hl,decide_eq_false hlt];rfl
    subst hz0;have hlt':¬ (l:Int)<1099511627776:=(by omega);have hlt2:decide ((l:Int)<1099511627776)=false:=decide_eq_false hlt';have hlt3:(1099511627776:Int)<=l:=(by omega);clear hp hz hl hpg hx hb hlt;go_enter Tryz.func67,Tryz.ntmps67;go_wp2_with(first
     |(go_at_call 68;refine HP.out.mono ?_;rintro e w1 ⟨rfl,hd⟩;have HD:=ah hd;obtain⟨c0,c1⟩:=l9.out w1 hd;clear hd)
     |(go_at_call 105;refine(HL.out _).mono ?_;rintro e w2 ⟨rfl,hd⟩;have HD2:=ah hd;clear hd))
    go_ret;have h3:=HB.out.trans (HD.out.mono HB.out.size);exact⟨by rw [<-hlt2];rfl,h3.trans (HD2.out.mono h3.size)⟩
theorem zU(n lo hi:Int)(w:World):
   Calls Tryz.prog 70 #[.int .i64 n,.int .i64 lo,.int .i64 hi] w fun e w'=>e= .returned (.bool (decide (lo<=n/\ n<=hi)))/\ w'=w:=by
 by_cases h1:lo<=n
 · by_cases h2:n<=hi
   · rw [decide_eq_true ⟨h1,h2⟩]
     go_enter Tryz.func70,Tryz.ntmps70;go_wp2
     go_ret;exact⟨rfl,rfl⟩
   · rw [decide_eq_false (fun h=>h2 h.2)]
     go_enter Tryz.func70,Tryz.ntmps70;go_wp2
     go_ret;exact⟨rfl,rfl⟩
 · rw [decide_eq_false (fun h=>h1 h.1)]
   go_enter Tryz.func70,Tryz.ntmps70;go_wp2
   go_ret;exact⟨rfl,rfl⟩
open Go.RowKit
def GY(r1 r2 l1 l2:Nat)(i s c:Int):Array Value:= #[.int .u64 (r1:Int),.int .u64 (r2:Int),.int .u64 (l1:Int),.int .u64 (l2:Int),.int .i64 i,.int .i64 s,.int .i64 c]
def aiC(r1 r2 l1 l2:Nat):Bool:=Ea (r1,r2)&&(eG (l1,l2)&&within (l1,l2) (r1,r2))
def wS(i s c:Int):Bool:=decide (0<=i/\ i<=1020)&&(decide (0<=s/\ s<=256)&&decide (1<=c/\ c<=32))
def Gu(r1 r2 l1 l2:Nat)(i s c:Int):Nat:=if(aiC r1 r2 l1 l2&&wS i s c)=true then 0 else 282
def Vx(w:World)(r1 r2 l1 l2:Nat)(i s c:Int)(v:World):Prop:=v.cell? ⟨w.heap.size,0,none⟩=some (.int .u64 (r1:Int))/\ v.cell? ⟨w.heap.size,1,none⟩=some (.int .u64 (r2:Int))/\ v.cell? ⟨w.heap.size,2,none⟩=some (.int .u64 (l1:Int))/\ v.cell? ⟨w.heap.size,3,none⟩=some (.int .u64 (l2:Int))/\
 v.cell? ⟨w.heap.size,4,none⟩=some (.int .i64 i)/\ v.cell? ⟨w.heap.size,5,none⟩=some (.int .i64 s)/\ v.cell? ⟨w.heap.size,6,none⟩=some (.int .i64 c)
theorem Vx.of{w v:World}{r1 r2 l1 l2:Nat}{i s c:Int}(h:Below (w.alloc (.cells (GY r1 r2 l1 l2 i s c) 26)).heap.size (w.alloc (.cells (GY r1 r2 l1 l2 i s c) 26)) v):Vx w r1 r2 l1 l2 i s c v:=by
 have hb:fB v w.heap.size 26 (GY r1 r2 l1 l2 i s c):=fB.under (fB.new _ _ _ rfl) h;exact⟨hb.cellAt 0 rfl,hb.cellAt 1 rfl,hb.cellAt 2 rfl,hb.cellAt 3 rfl,hb.cellAt 4 rfl,hb.cellAt 5 rfl,hb.cellAt 6 rfl⟩
theorem aa7(r1 r2 l1 l2:Nat)(i s c:Int)(hr:fit (r1,r2))(hl:fit (l1,l2))(w:World):
  Calls Tryz.prog 37 #[.agg #[.int .u64 (r1:Int),.int .u64 (r2:Int),.int .u64 (l1:Int),.int .u64 (l2:Int),.int .i64 i,.int .i64 s,.int .i64 c]] w fun e w'=>e= .returned (.int .i64 (Gu r1 r2 l1 l2 i s c:Nat))/\ Below w.heap.size w w':=by
 obtain⟨V,hV⟩:=aqx (w.alloc (.cells (GY r1 r2 l1 l2 i s c) 26));have l9:Hid (∀v,Below V.heap.size V v->Vx w r1 r2 l1 l2 i s c v):=ah (by rw [hV];exact fun v h=>Vx.of h);have HS:Hid (Below V.heap.size V V):=ah (aC _ _);have HW:Hid (Below w.heap.size w V):=ah (by rw [hV];exact(aC _ _).alloc (aj _) _);obtain⟨zA,hzA⟩:=aqx (Ea (r1,r2));obtain⟨zP,Wj⟩:=aqx (eG (l1,l2));obtain⟨zW,hzW⟩:=aqx (within (l1,l2) (r1,r2));obtain⟨zi,hzi⟩:=aqx (decide ((0:Int)<=i/\ i<=1020));obtain⟨zs,hzs⟩:=aqx (decide ((0:Int)<=s/\ s<=256));obtain⟨zc,hzc⟩:=aqx (decide ((1:Int)<=c/\ c<=32));have CA:=ah (fun W=>Iw r1 r2 hr W);have CP:=ah (fun W g hg=>Zb l1 l2 hl W g hg);have CW:=ah (fun W=>GZ l1 l2 r1 r2 hl hr W);have Ci:=ah (fun W=>zU i 0 1020 W);have Cs:=ah (fun W=>zU s 0 256 W);have Cc:=ah (fun W=>zU c 1 32 W);obtain⟨E,hE⟩:=aqx (Gu r1 r2 l1 l2 i s c);have he:E=if((zA&&(zP&&zW))&&(zi&&(zs&&zc)))=true then 0 else 282:=(by rw [hE,hzA,Wj,hzW,hzi,hzs,hzc];rfl)
 rw [<-hE];rw [<-hzA]at CA;rw [<-Wj]at CP;rw [<-hzW]at CW;rw [<-hzi]at Ci;rw [<-hzs]at Cs;rw [<-hzc]at Cc;have HV:=ah hV;clear hr hl hE hzA Wj hzW hzi hzs hzc hV;obtain⟨c0,c1,c2,c3,c4,c5,c6⟩:=l9.out V HS.out;rw [HV.out]at c0 c1 c2 c3 c4 c5 c6;simp only [GY]at c0 c1 c2 c3 c4 c5 c6;cases zA with
 |false=>
  cases zi with
  |false=>
   obtain rfl:E=282:=by rw [he];simp
   clear he;go_enter Tryz.func37,Tryz.ntmps37;go_wp2_with(first
    |(go_at_call 67;refine(CA.out _).mono ?_;rintro e v ⟨rfl,hd⟩;have hd:Below V.heap.size V v:=(by rw [HV.out];exact hd);have HS:=ah (HS.out.trans (hd.mono HS.out.size));obtain⟨c0,c1,c2,c3,c4,c5,c6⟩:=l9.out v HS.out;clear hd)
    |(go_at_call 70;first|((with_reducible show Calls _ _ #[.int .i64 i,_,_] _ _);refine(Ci.out _).mono ?_;rintro e v ⟨rfl,rfl⟩)|((with_reducible show Calls _ _ #[.int .i64 s,_,_] _ _);refine(Cs.out _).mono ?_;rintro e v ⟨rfl,rfl⟩)|((with_reducible show Calls _ _ #[.int .i64 c,_,_] _ _);refine(Cc.out _).mono ?_;rintro e v ⟨rfl,rfl⟩)))
   go_ret;exact⟨rfl,HW.out.trans (HS.out.mono HW.out.size)⟩
  |true=>
   cases zs with
   |false=>
    obtain rfl:E=282:=by rw [he];simp
    clear he;go_enter Tryz.func37,Tryz.ntmps37;go_wp2_with(first
     |(go_at_call 67;refine(CA.out _).mono ?_;rintro e v ⟨rfl,hd⟩;have hd:Below V.heap.size V v:=(by rw [HV.out];exact hd);have HS:=ah (HS.out.trans (hd.mono HS.out.size));obtain⟨c0,c1,c2,c3,c4,c5,c6⟩:=l9.out v HS.out;clear hd)
     |(go_at_call 70;first|((with_reducible show Calls _ _ #[.int .i64 i,_,_] _ _);refine(Ci.out _).mono ?_;rintro e v ⟨rfl,rfl⟩)|((with_reducible show Calls _ _ #[.int .i64 s,_,_] _ _);refine(Cs.out _).mono ?_;rintro e v ⟨rfl,rfl⟩)|((with_reducible show Calls _ _ #[.int .i64 c,_,_] _ _);refine(Cc.out _).mono ?_;rintro e v ⟨rfl,rfl⟩)))
    go_ret;exact⟨rfl,HW.out.trans (HS.out.mono HW.out.size)⟩
   |true=>
    cases zc with
    |false=>
     obtain rfl:E=282:=by rw [he];simp
     clear he;go_enter Tryz.func37,Tryz.ntmps37;go_wp2_with(first
      |(go_at_call 67;refine(CA.out _).mono ?_;rintro e v ⟨rfl,hd⟩;have hd:Below V.heap.size V v:=(by rw [HV.out];exact hd);have HS:=ah (HS.out.trans (hd.mono HS.out.size));obtain⟨c0,c1,c2,c3,c4,c5,c6⟩:=l9.out v HS.out;clear hd)
      |(go_at_call 70;first|((with_reducible show Calls _ _ #[.int .i64 i,_,_] _ _);refine(Ci.out _).mono ?_;rintro e v ⟨rfl,rfl⟩)|((with_reducible show Calls _ _ #[.int .i64 s,_,_] _ _);refine(Cs.out _).mono ?_;rintro e v ⟨rfl,rfl⟩)|((with_reducible show Calls _ _ #[.int .i64 c,_,_] _ _);refine(Cc.out _).mono ?_;rintro e v ⟨rfl,rfl⟩)))
     go_ret;exact⟨rfl,HW.out.trans (HS.out.mono HW.out.size)⟩
    |true=>
     obtain rfl:E=282:=by rw [he];simp
     clear he;go_enter Tryz.func37,Tryz.ntmps37;go_wp2_with(first
      |(go_at_call 67;refine(CA.out _).mono ?_;rintro e v ⟨rfl,hd⟩;have hd:Below V.heap.size V v:=(by rw [HV.out];exact hd);have HS:=ah (HS.out.trans (hd.mono HS.out.size));obtain⟨c0,c1,c2,c3,c4,c5,c6⟩:=l9.out v HS.out;clear hd)
      |(go_at_call 70;first|((with_reducible show Calls _ _ #[.int .i64 i,_,_] _ _);refine(Ci.out _).mono ?_;rintro e v ⟨rfl,rfl⟩)|((with_reducible show Calls _ _ #[.int .i64 s,_,_] _ _);refine(Cs.out _).mono ?_;rintro e v ⟨rfl,rfl⟩)|((with_reducible show Calls _ _ #[.int .i64 c,_,_] _ _);refine(Cc.out _).mono ?_;rintro e v ⟨rfl,rfl⟩)))
     go_ret;exact⟨rfl,HW.out.trans (HS.out.mono HW.out.size)⟩
 |true=>
  cases zP with
  |false=>
   cases zi with
   |false=>
    obtain rfl:E=282:=by rw [he];simp
    clear he;go_enter Tryz.func37,Tryz.ntmps37;go_wp2_with(first
     |(go_at_call 67;refine(CA.out _).mono ?_;rintro e v ⟨rfl,hd⟩;have hd:Below V.heap.size V v:=(by rw [HV.out];exact hd);have HS:=ah (HS.out.trans (hd.mono HS.out.size));obtain⟨c0,c1,c2,c3,c4,c5,c6⟩:=l9.out v HS.out;clear hd)
     |(go_at_call 68;refine(CP.out _ _ rfl).mono ?_;rintro e v ⟨rfl,hd⟩;have HS:=ah (HS.out.trans (hd.mono HS.out.size));obtain⟨c0,c1,c2,c3,c4,c5,c6⟩:=l9.out v HS.out;clear hd)
     |(go_at_call 70;first|((with_reducible show Calls _ _ #[.int .i64 i,_,_] _ _);refine(Ci.out _).mono ?_;rintro e v ⟨rfl,rfl⟩)|((with_reducible show Calls _ _ #[.int .i64 s,_,_] _ _);refine(Cs.out _).mono ?_;rintro e v ⟨rfl,rfl⟩)|((with_reducible show Calls _ _ #[.int .i64 c,_,_] _ _);refine(Cc.out _).mono ?_;rintro e v ⟨rfl,rfl⟩)))
    go_ret;exact⟨rfl,HW.out.trans (HS.out.mono HW.out.size)⟩
   |true=>
    cases zs with
    |false=>
     obtain rfl:E=282:=by rw [he];simp
     clear he;go_enter Tryz.func37,Tryz.ntmps37;go_wp2_with(first
      |(go_at_call 67;refine(CA.out _).mono ?_;rintro e v ⟨rfl,hd⟩;have hd:Below V.heap.size V v:=(by rw [HV.out];exact hd);have HS:=ah (HS.out.trans (hd.mono HS.out.size));obtain⟨c0,c1,c2,c3,c4,c5,c6⟩:=l9.out v HS.out;clear hd)
      |(go_at_call 68;refine(CP.out _ _ rfl).mono ?_;rintro e v ⟨rfl,hd⟩;have HS:=ah (HS.out.trans (hd.mono HS.out.size));obtain⟨c0,c1,c2,c3,c4,c5,c6⟩:=l9.out v HS.out;clear hd)
      |(go_at_call 70;first|((with_reducible show Calls _ _ #[.int .i64 i,_,_] _ _);refine(Ci.out _).mono ?_;rintro e v ⟨rfl,rfl⟩)|((with_reducible show Calls _ _ #[.int .i64 s,_,_] _ _);refine(Cs.out _).mono ?_;rintro e v ⟨rfl,rfl⟩)|((with_reducible show Calls _ _ #[.int .i64 c,_,_] _ _);refine(Cc.out _).mono ?_;rintro e v ⟨rfl,rfl⟩)))
     go_ret;exact⟨rfl,HW.out.trans (HS.out.mono HW.out.size)⟩
    |true=>
     cases zc with
     |false=>
      obtain rfl:E=282:=by rw [he];simp
      clear he;go_enter Tryz.func37,Tryz.ntmps37;go_wp2_with(first
       |(go_at_call 67;refine(CA.out _).mono ?_;rintro e v ⟨rfl,hd⟩;have hd:Below V.heap.size V v:=(by rw [HV.out];exact hd);have HS:=ah (HS.out.trans (hd.mono HS.out.size));obtain⟨c0,c1,c2,c3,c4,c5,c6⟩:=l9.out v HS.out;clear hd)
       |(go_at_call 68;refine(CP.out _ _ rfl).mono ?_;rintro e v ⟨rfl,hd⟩;have HS:=ah (HS.out.trans (hd.mono HS.out.size));obtain⟨c0,c1,c2,c3,c4,c5,c6⟩:=l9.out v HS.out;clear hd)
       |(go_at_call 70;first|((with_reducible show Calls _ _ #[.int .i64 i,_,_] _ _);refine(Ci.out _).mono ?_;rintro e v ⟨rfl,rfl⟩)|((with_reducible show Calls _ _ #[.int .i64 s,_,_] _ _);refine(Cs.out _).mono ?_;rintro e v ⟨rfl,rfl⟩)|((with_reducible show Calls _ _ #[.int .i64 c,_,_] _ _);refine(Cc.out _).mono ?_;rintro e v ⟨rfl,rfl⟩)))
      go_ret;exact⟨rfl,HW.out.trans (HS.out.mono HW.out.size)⟩
     |true=>
      obtain rfl:E=282:=by rw [he];simp
      clear he;go_enter Tryz.func37,Tryz.ntmps37;go_wp2_with(first
       |(go_at_call 67;refine(CA.out _).mono ?_;rintro e v ⟨rfl,hd⟩;have hd:Below V.heap.size V v:=(by rw [HV.out];exact hd);have HS:=ah (HS.out.trans (hd.mono HS.out.size));obtain⟨c0,c1,c2,c3,c4,c5,c6⟩:=l9.out v HS.out;clear hd)
       |(go_at_call 68;refine(CP.out _ _ rfl).mono ?_;rintro e v ⟨rfl,hd⟩;have HS:=ah (HS.out.trans (hd.mono HS.out.size));obtain⟨c0,c1,c2,c3,c4,c5,c6⟩:=l9.out v HS.out;clear hd)
       |(go_at_call 70;first|((with_reducible show Calls _ _ #[.int .i64 i,_,_] _ _);refine(Ci.out _).mono ?_;rintro e v ⟨rfl,rfl⟩)|((with_reducible show Calls _ _ #[.int .i64 s,_,_] _ _);refine(Cs.out _).mono ?_;rintro e v ⟨rfl,rfl⟩)|((with_reducible show Calls _ _ #[.int .i64 c,_,_] _ _);refine(Cc.out _).mono ?_;rintro e v ⟨rfl,rfl⟩)))
      go_ret;exact⟨rfl,HW.out.trans (HS.out.mono HW.out.size)⟩
  |true=>
   cases zW with
   |false=>
    cases zi with
    |false=>
     obtain rfl:E=282:=by rw [he];simp
     clear he;go_enter Tryz.func37,Tryz.ntmps37;go_wp2_with(first
      |(go_at_call 67;refine(CA.out _).mono ?_;rintro e v ⟨rfl,hd⟩;have hd:Below V.heap.size V v:=(by rw [HV.out];exact hd);have HS:=ah (HS.out.trans (hd.mono HS.out.size));obtain⟨c0,c1,c2,c3,c4,c5,c6⟩:=l9.out v HS.out;clear hd)
      |(go_at_call 68;refine(CP.out _ _ rfl).mono ?_;rintro e v ⟨rfl,hd⟩;have HS:=ah (HS.out.trans (hd.mono HS.out.size));obtain⟨c0,c1,c2,c3,c4,c5,c6⟩:=l9.out v HS.out;clear hd)
      |(go_at_call 69;refine(CW.out _).mono ?_;rintro e v ⟨rfl,hd⟩;have HS:=ah (HS.out.trans (hd.mono HS.out.size));obtain⟨c0,c1,c2,c3,c4,c5,c6⟩:=l9.out v HS.out;clear hd)
      |(go_at_call 70;first|((with_reducible show Calls _ _ #[.int .i64 i,_,_] _ _);refine(Ci.out _).mono ?_;rintro e v ⟨rfl,rfl⟩)|((with_reducible show Calls _ _ #[.int .i64 s,_,_] _ _);refine(Cs.out _).mono ?_;rintro e v ⟨rfl,rfl⟩)|((with_reducible show Calls _ _ #[.int .i64 c,_,_] _ _);refine(Cc.out _).mono ?_;rintro e v ⟨rfl,rfl⟩)))
     go_ret;exact⟨rfl,HW.out.trans (HS.out.mono HW.out.size)⟩
    |true=>
     cases zs with
     |false=>
      obtain rfl:E=282:=by rw [he];simp
      clear he;go_enter Tryz.func37,Tryz.ntmps37;go_wp2_with(first
       |(go_at_call 67;refine(CA.out _).mono ?_;rintro e v ⟨rfl,hd⟩;have hd:Below V.heap.size V v:=(by rw [HV.out];exact hd);have HS:=ah (HS.out.trans (hd.mono HS.out.size));obtain⟨c0,c1,c2,c3,c4,c5,c6⟩:=l9.out v HS.out;clear hd)
       |(go_at_call 68;refine(CP.out _ _ rfl).mono ?_;rintro e v ⟨rfl,hd⟩;have HS:=ah (HS.out.trans (hd.mono HS.out.size));obtain⟨c0,c1,c2,c3,c4,c5,c6⟩:=l9.out v HS.out;clear hd)
       |(go_at_call 69;refine(CW.out _).mono ?_;rintro e v ⟨rfl,hd⟩;have HS:=ah (HS.out.trans (hd.mono HS.out.size));obtain⟨c0,c1,c2,c3,c4,c5,c6⟩:=l9.out v HS.out;clear hd)
       |(go_at_call 70;first|((with_reducible show Calls _ _ #[.int .i64 i,_,_] _ _);refine(Ci.out _).mono ?_;rintro e v ⟨rfl,rfl⟩)|((with_reducible show Calls _ _ #[.int .i64 s,_,_] _ _);refine(Cs.out _).mono ?_;rintro e v ⟨rfl,rfl⟩)|((with_reducible show Calls _ _ #[.int .i64 c,_,_] _ _);refine(Cc.out _).mono ?_;rintro e v ⟨rfl,rfl⟩)))
      go_ret;exact⟨rfl,HW.out.trans (HS.out.mono HW.out.size)⟩
     |true=>
      cases zc with
      |false=>
       obtain rfl:E=282:=by rw [he];simp
       clear he;go_enter Tryz.func37,Tryz.ntmps37;go_wp2_with(first
        |(go_at_call 67;refine(CA.out _).mono ?_;rintro e v ⟨rfl,hd⟩;have hd:Below V.heap.size V v:=(by rw [HV.out];exact hd);have HS:=ah (HS.out.trans (hd.mono HS.out.size));obtain⟨c0,c1,c2,c3,c4,c5,c6⟩:=l9.out v HS.out;clear hd)
        |(go_at_call 68;refine(CP.out _ _ rfl).mono ?_;rintro e v ⟨rfl,hd⟩;have HS:=ah (HS.out.trans (hd.mono HS.out.size));obtain⟨c0,c1,c2,c3,c4,c5,c6⟩:=l9.out v HS.out;clear hd)
        |(go_at_call 69;refine(CW.out _).mono ?_;rintro e v ⟨rfl,hd⟩;have HS:=ah (HS.out.trans (hd.mono HS.out.size));obtain⟨c0,c1,c2,c3,c4,c5,c6⟩:=l9.out v HS.out;clear hd)
        |(go_at_call 70;first|((with_reducible show Calls _ _ #[.int .i64 i,_,_] _ _);refine(Ci.out _).mono ?_;rintro e v ⟨rfl,rfl⟩)|((with_reducible show Calls _ _ #[.int .i64 s,_,_] _ _);refine(Cs.out _).mono ?_;rintro e v ⟨rfl,rfl⟩)|((with_reducible show Calls _ _ #[.int .i64 c,_,_] _ _);refine(Cc.out _).mono ?_;rintro e v ⟨rfl,rfl⟩)))
       go_ret;exact⟨rfl,HW.out.trans (HS.out.mono HW.out.size)⟩
      |true=>
       obtain rfl:E=282:=by rw [he];simp
       clear he;go_enter Tryz.func37,Tryz.ntmps37;go_wp2_with(first
        |(go_at_call 67;refine(CA.out _).mono ?_;rintro e v ⟨rfl,hd⟩;have hd:Below V.heap.size V v:=(by rw [HV.out];exact hd);have HS:=ah (HS.out.trans (hd.mono HS.out.size));obtain⟨c0,c1,c2,c3,c4,c5,c6⟩:=l9.out v HS.out;clear hd)
        |(go_at_call 68;refine(CP.out _ _ rfl).mono ?_;rintro e v ⟨rfl,hd⟩;have HS:=ah (HS.out.trans (hd.mono HS.out.size));obtain⟨c0,c1,c2,c3,c4,c5,c6⟩:=l9.out v HS.out;clear hd)
        |(go_at_call 69;refine(CW.out _).mono ?_;rintro e v ⟨rfl,hd⟩;have HS:=ah (HS.out.trans (hd.mono HS.out.size));obtain⟨c0,c1,c2,c3,c4,c5,c6⟩:=l9.out v HS.out;clear hd)
        |(go_at_call 70;first|((with_reducible show Calls _ _ #[.int .i64 i,_,_] _ _);refine(Ci.out _).mono ?_;rintro e v ⟨rfl,rfl⟩)|((with_reducible show Calls _ _ #[.int .i64 s,_,_] _ _);refine(Cs.out _).mono ?_;rintro e v ⟨rfl,rfl⟩)|((with_reducible show Calls _ _ #[.int .i64 c,_,_] _ _);refine(Cc.out _).mono ?_;rintro e v ⟨rfl,rfl⟩)))
       go_ret;exact⟨rfl,HW.out.trans (HS.out.mono HW.out.size)⟩
   |true=>
    cases zi with
    |false=>
     obtain rfl:E=282:=by rw [he];simp
     clear he;go_enter Tryz.func37,Tryz.ntmps37;go_wp2_with(first
      |(go_at_call 67;refine(CA.out _).mono ?_;rintro e v ⟨rfl,hd⟩;have hd:Below V.heap.size V v:=(by rw [HV.out];exact hd);have HS:=ah (HS.out.trans (hd.mono HS.out.size));obtain⟨c0,c1,c2,c3,c4,c5,c6⟩:=l9.out v HS.out;clear hd)
      |(go_at_call 68;refine(CP.out _ _ rfl).mono ?_;rintro e v ⟨rfl,hd⟩;have HS:=ah (HS.out.trans (hd.mono HS.out.size));obtain⟨c0,c1,c2,c3,c4,c5,c6⟩:=l9.out v HS.out;clear hd)
      |(go_at_call 69;refine(CW.out _).mono ?_;rintro e v ⟨rfl,hd⟩;have HS:=ah (HS.out.trans (hd.mono HS.out.size));obtain⟨c0,c1,c2,c3,c4,c5,c6⟩:=l9.out v HS.out;clear hd)
      |(go_at_call 70;first|((with_reducible show Calls _ _ #[.int .i64 i,_,_] _ _);refine(Ci.out _).mono ?_;rintro e v ⟨rfl,rfl⟩)|((with_reducible show Calls _ _ #[.int .i64 s,_,_] _ _);refine(Cs.out _).mono ?_;rintro e v ⟨rfl,rfl⟩)|((with_reducible show Calls _ _ #[.int .i64 c,_,_] _ _);refine(Cc.out _).mono ?_;rintro e v ⟨rfl,rfl⟩)))
     go_ret;exact⟨rfl,HW.out.trans (HS.out.mono HW.out.size)⟩
    |true=>
     cases zs with
     |false=>
      obtain rfl:E=282:=by rw [he];simp
      clear he;go_enter Tryz.func37,Tryz.ntmps37;go_wp2_with(first
       |(go_at_call 67;refine(CA.out _).mono ?_;rintro e v ⟨rfl,hd⟩;have hd:Below V.heap.size V v:=(by rw [HV.out];exact hd);have HS:=ah (HS.out.trans (hd.mono HS.out.size));obtain⟨c0,c1,c2,c3,c4,c5,c6⟩:=l9.out v HS.out;clear hd)
       |(go_at_call 68;refine(CP.out _ _ rfl).mono ?_;rintro e v ⟨rfl,hd⟩;have HS:=ah (HS.out.trans (hd.mono HS.out.size));obtain⟨c0,c1,c2,c3,c4,c5,c6⟩:=l9.out v HS.out;clear hd)
       |(go_at_call 69;refine(CW.out _).mono ?_;rintro e v ⟨rfl,hd⟩;have HS:=ah (HS.out.trans (hd.mono HS.out.size));obtain⟨c0,c1,c2,c3,c4,c5,c6⟩:=l9.out v HS.out;clear hd)
       |(go_at_call 70;first|((with_reducible show Calls _ _ #[.int .i64 i,_,_] _ _);refine(Ci.out _).mono ?_;rintro e v ⟨rfl,rfl⟩)|((with_reducible show Calls _ _ #[.int .i64 s,_,_] _ _);refine(Cs.out _).mono ?_;rintro e v ⟨rfl,rfl⟩)|((with_reducible show Calls _ _ #[.int .i64 c,_,_] _ _);refine(Cc.out _).mono ?_;rintro e v ⟨rfl,rfl⟩)))
      go_ret;exact⟨rfl,HW.out.trans (HS.out.mono HW.out.size)⟩
     |true=>
      cases zc with
      |false=>
       obtain rfl:E=282:=by rw [he];simp
       clear he;go_enter Tryz.func37,Tryz.ntmps37;go_wp2_with(first
        |(go_at_call 67;refine(CA.out _).mono ?_;rintro e v ⟨rfl,hd⟩;have hd:Below V.heap.size V v:=(by rw [HV.out];exact hd);have HS:=ah (HS.out.trans (hd.mono HS.out.size));obtain⟨c0,c1,c2,c3,c4,c5,c6⟩:=l9.out v HS.out;clear hd)
        |(go_at_call 68;refine(CP.out _ _ rfl).mono ?_;rintro e v ⟨rfl,hd⟩;have HS:=ah (HS.out.trans (hd.mono HS.out.size));obtain⟨c0,c1,c2,c3,c4,c5,c6⟩:=l9.out v HS.out;clear hd)
        |(go_at_call 69;refine(CW.out _).mono ?_;rintro e v ⟨rfl,hd⟩;have HS:=ah (HS.out.trans (hd.mono HS.out.size));obtain⟨c0,c1,c2,c3,c4,c5,c6⟩:=l9.out v HS.out;clear hd)
        |(go_at_call 70;first|((with_reducible show Calls _ _ #[.int .i64 i,_,_] _ _);refine(Ci.out _).mono ?_;rintro e v ⟨rfl,rfl⟩)|((with_reducible show Calls _ _ #[.int .i64 s,_,_] _ _);refine(Cs.out _).mono ?_;rintro e v ⟨rfl,rfl⟩)|((with_reducible show Calls _ _ #[.int .i64 c,_,_] _ _);refine(Cc.out _).mono ?_;rintro e v ⟨rfl,rfl⟩)))
       go_ret;exact⟨rfl,HW.out.trans (HS.out.mono HW.out.size)⟩
      |true=>
       obtain rfl:E=0:=by rw [he];simp
       clear he;go_enter Tryz.func37,Tryz.ntmps37;go_wp2_with(first
        |(go_at_call 67;refine(CA.out _).mono ?_;rintro e v ⟨rfl,hd⟩;have hd:Below V.heap.size V v:=(by rw [HV.out];exact hd);have HS:=ah (HS.out.trans (hd.mono HS.out.size));obtain⟨c0,c1,c2,c3,c4,c5,c6⟩:=l9.out v HS.out;clear hd)
        |(go_at_call 68;refine(CP.out _ _ rfl).mono ?_;rintro e v ⟨rfl,hd⟩;have HS:=ah (HS.out.trans (hd.mono HS.out.size));obtain⟨c0,c1,c2,c3,c4,c5,c6⟩:=l9.out v HS.out;clear hd)
        |(go_at_call 69;refine(CW.out _).mono ?_;rintro e v ⟨rfl,hd⟩;have HS:=ah (HS.out.trans (hd.mono HS.out.size));obtain⟨c0,c1,c2,c3,c4,c5,c6⟩:=l9.out v HS.out;clear hd)
        |(go_at_call 70;first|((with_reducible show Calls _ _ #[.int .i64 i,_,_] _ _);refine(Ci.out _).mono ?_;rintro e v ⟨rfl,rfl⟩)|((with_reducible show Calls _ _ #[.int .i64 s,_,_] _ _);refine(Cs.out _).mono ?_;rintro e v ⟨rfl,rfl⟩)|((with_reducible show Calls _ _ #[.int .i64 c,_,_] _ _);refine(Cc.out _).mono ?_;rintro e v ⟨rfl,rfl⟩)))
       go_ret;exact⟨rfl,HW.out.trans (HS.out.mono HW.out.size)⟩
set_option linter.unusedSimpArgs false
def oG{α:Type}(c:EU α)(x:α)(er:Nat)(l:By):Prop:=c.put x=if er=0 then .ok l else .error er
theorem oG.map{α β:Type}{c:EU α}{f:α->β}{g:β->α}{x:β}{e:Nat}{l:By}(h:oG c (g x) e l):oG (c.map f g) x e l:=h
def dK{α:Type}(e:α->Nat):List α->Nat
 | []=>0
 |x::xs=>if e x=0 then dK e xs else e x
theorem BD{α:Type}{e:α->Nat}{b:α->Bool}{n:Nat}(h:∀x,e x=if b x=true then n else 0)(hn:n≠0):∀l:List α,dK e l=if l.any b=true then n else 0
 | []=>rfl
 |x::xs=>by
  show(if e x=0 then dK e xs else e x)=_
  rw [BD h hn xs,h x];cases hb:b x<;>simp [hb,hn]
theorem VF{α:Type}{e:α->Nat}(l:List α)(h:∀x∈l,e x=0):dK e l=0:=by
 induction l with
 |nil=>rfl
 |cons x xs ih=>
  show(if e x=0 then dK e xs else e x)=0
  rw [h x (by simp),if_pos rfl];exact ih fun y hy=>h y (by simp [hy])
theorem Tz{m lo hi er:Nat}(z:Int):(fld m lo hi er).put z=if(lo:Int)<=z/\ z<=(hi:Int)then .ok (be m z.toNat)else .error er:=rfl
theorem oG.fld{m lo hi er:Nat}(he:er≠0)(z:Int):oG (fld m lo hi er) z (if inB z lo hi=true then 0 else er) (be m z.toNat):=by
 unfold oG;rw [Tz];unfold inB;by_cases h:(lo:Int)<=z/\ z<=(hi:Int)<;>simp [h,he]
theorem oG.Zc{m lo hi er:Nat}{z:Int}(h:(lo:Int)<=z/\ z<=(hi:Int)):oG (Go.Proofs.YtkaipknkjocfiaaGreat.fld m lo hi er) z 0 (be m z.toNat):=by
 unfold oG;rw [Tz,if_pos h,if_pos rfl]
theorem oG.u64{z:Int}(h:vJ z):oG ajS z 0 (be 8 z.toNat):=oG.Zc h
theorem oG.u32{z:Int}(h:rP z):oG ajT z 0 (be 4 z.toNat):=oG.Zc h
def xJ(b:Bool):Nat:=cond b 1 0
theorem oG.bool(b:Bool):oG ae' b 0 (be 4 (xJ b)):=by
 cases b<;>exact oG.map (oG.Zc (by decide))
theorem oG.e{α:Type}{c:EU α}{x:α}{e e':Nat}{l l':By}(h:oG c x e l)(he:e=e')(hl:l=l'):oG c x e' l':=he▸hl▸h
def jr(x:Wi):Bool:= !inB x.perm 0 7
def jv(x:Ir):Bool:= !inB x.number 0 65535|| !inB x.cpu 0 65535
def kL(x:En):Bool:= !inB x.bK 0 65535|| !inB x.perm 0 7
def kM(x:Ch):Bool:=kL x.a||kL x.b
def jg(b:Bool):Nat:=if b=true then 144 else 0
def jH(x:Wi):By:=be 8 x.fZ.toNat++(be 8 x.pa.toNat++(be 8 x.size.toNat++be 4 x.perm.toNat))
def jL(x:De):By:=be 8 x.fZ.toNat++(be 8 x.pa.toNat++be 8 x.size.toNat)
def jM(x:Ir):By:=be 2 x.number.toNat++(be 2 x.cpu.toNat++be 4 (xJ x.edge))
def jI(x:En):By:=be 2 x.bK.toNat++(be 2 x.perm.toNat++be 8 x.fZ.toNat)
def kD(x:Ch):By:=be 8 x.pa.toNat++(be 8 x.size.toNat++(jI x.a++jI x.b))
def pX(x:Int):By:=be 4 x.toNat
def tX(g:Gs):Bool:=inB g.wins.length 1 16&&(inB g.dG.length 0 16&&(inB g.cO.length 0 64&&inB g.strs.length 0 32))
def jX(g:Gs):Nat:=if jD g.name=false then 143 else if Ij g.key=false then 144 else if tX g=false then 142 else jg (g.wins.any jr||g.cO.any jv)
def XG(g:Gs):By:=qQ g.name++(be 4 (xJ g.must)++(be 4 g.off.toNat++(be 4 g.len.toNat++(be 4 g.gX.toNat++(be 8 g.entry.toNat++(be 8 g.Ac.toNat++g.key))))))
def XH(g:Gs):By:=be 2 g.wins.length++(be 2 g.dG.length++(be 2 g.cO.length++be 2 g.strs.length))
def XI(g:Gs):By:=g.wins.flatMap jH++(g.dG.flatMap jL++(g.cO.flatMap jM++g.strs.flatMap pX))
def nZ(g:Gs):By:=XG g++(XH g++XI g)
def vC(c:Cf):Nat:=if(inB c.gs.length 1 16&&inB c.dH.length 0 32)=false then 142 else if dK jX c.gs=0 then jg (c.dH.any kM)else dK jX c.gs
def tY(c:Cf):By:=be 4 1111705159++(be 2 1++(be 2 c.gs.length++(be 2 c.dH.length++(be 2 0++be 4 c.ver.toNat))))++(c.gs.flatMap nZ++c.dH.flatMap kD)
def lT(c:Cf):Nat:=if vC c=0 then(if(tY c).length<=65536 then 0 else 2)else vC c
open Go.RowKit
attribute [local go_sem ↓ high] gZ
def wrF(v:Value)(e:Nat):Nat->Value:=fun i=>if i=0 then v else .int .i64 (e:Int)
structure WW(w:World)(b:Option Nat)(g:Nat)(l:By)(m e:Nat):Prop where
 ex:∃ (A:Option Addr) (c:Nat) (L:By),aU w g 121 2 (wrF (.slice A L.length c) e)/\ OwnB w (g+1) (.slice A L.length c) L/\ (Value.slice A L.length c).ownBlock=b/\ (e=0->L=l)/\ L.length<=m
structure WT(g:Nat)(b:Option Nat)(w w':World):Prop where
 os:w'.os=w.os
 tape:w'.tape=w.tape
 output:w'.output=w.output
 size:w.heap.size<=w'.heap.size
 block:∀k,k<w.heap.size->k≠g->b≠some k->w'.heap[k]?=w.heap[k]?
theorem WT.refl(g:Nat)(b:Option Nat)(w:World):WT g b w w:=⟨rfl,rfl,rfl,aj _,fun _ _ _ _=>rfl⟩
theorem WT.trans{g:Nat}{b b':Option Nat}{u v w:World}(h:WT g b u v)(k:WT g b' v w)(hb:∀i,b'=some i->b=some i∨u.heap.size<=i):WT g b u w:=
 ⟨k.os.trans h.os,k.tape.trans h.tape,k.output.trans h.output,aA h.size k.size,fun i hi h1 h2=>
  (k.block i (aN hi h.size) h1 fun e=>by rcases hb i e with h3|h3;exact h2 h3;omega).trans (h.block i hi h1 h2)⟩
theorem WT.of_below{g:Nat}{b:Option Nat}{w w':World}(h:Below w.heap.size w w'):WT g b w w':=⟨h.1,h.2,h.3,h.4,fun k hk _ _=>h.5 k hk⟩
theorem WT.yt{g:Nat}{b:Option Nat}{w w':World}(h:Save g w w'):WT g b w w':=⟨h.os,h.tape,h.output,h.size,fun k hk h1 _=>h.block k hk h1⟩
structure WS(V:World)(b0:Option Nat)(g:Nat)(l:By)(m e:Nat)(W:World):Prop where
 ww:∃b,WW W b g l m e/\ ∀k,b=some k->b0=some k∨V.heap.size<=k
 tu:WT g b0 V W
 lt:g<V.heap.size
 off:∀k,b0=some k->g<k
theorem WW.lt{w:World}{b:Option Nat}{g:Nat}{l:By}{m e:Nat}(h:WW w b g l m e):g<w.heap.size:=by
 obtain⟨A,c,L,h1,_⟩:=h.ex;exact h1.lt
theorem WW.off{w:World}{b:Option Nat}{g:Nat}{l:By}{m e:Nat}(h:WW w b g l m e):∀k,b=some k->g<k/\ k<w.heap.size:=by
 obtain⟨A,c,L,_,h2,h3,_⟩:=h.ex;obtain⟨_,_,_,_,_,hk⟩:=h2.form;intro k e;have:=hk k (h3.trans e);omega
theorem WW.begin{w:World}{b:Option Nat}{g:Nat}{l:By}{m e:Nat}(h:WW w b g l m e):WS w b g l m e w:=⟨⟨b,h,fun _ h=>Or.inl h⟩,WT.refl _ _ _,h.lt,fun k e=>(h.off k e).1⟩
theorem WW.on{w w':World}{b:Option Nat}{g:Nat}{l:By}{m e:Nat}(h:WW w b g l m e)(hb:Below w.heap.size w w'):WW w' b g l m e:=by
 obtain⟨A,c,L,h1,h2,h3,h4,h5⟩:=h.ex;exact⟨A,c,L,h1.under hb,h2.on hb (aj _),h3,h4,h5⟩
section
variable {V W W' : World} {b0 : Option Nat} {g : Nat} {l l' : By} {m m' e : Nat}
theorem WS.on(h:WS V b0 g l m e W)(hb:Below W.heap.size W W'):WS V b0 g l m e W':=by
 obtain⟨b,h1,h2⟩:=h.ww;exact⟨⟨b,h1.on hb,h2⟩,h.tu.trans (WT.of_below (b:=none) hb) (fun _ e=>by cases e),h.lt,h.off⟩
theorem WS.any(h:WS V b0 g l m e W)(hl:e=0->l=l')(hm:m<=m'):WS V b0 g l' m' e W:=by
 obtain⟨b,⟨A,c,L,h1,h2,h3,h4,h5⟩,h6⟩:=h.ww;exact⟨⟨b,⟨A,c,L,h1,h2,h3,fun he=>(h4 he).trans (hl he),aA h5 hm⟩,h6⟩,h.tu,h.lt,h.off⟩
theorem WS.arr(h:WS V b0 g l m e W){q n:Nat}{t:TypeId}{f:Nat->Value}(ha:aU V q t n f)(h1:q≠g)(h2:b0≠some q):aU W q t n f:=(h.tu.block q ha.lt h1 h2).trans ha
theorem WS.below(h:WS V b0 g l m e W):Below g V W:=⟨h.tu.os,h.tu.tape,h.tu.output,h.tu.size,fun k hk=>h.tu.block k (Nat.lt_trans hk h.lt) (Nat.ne_of_lt hk) fun e=>by have:=h.off k e;omega⟩
theorem WS.size(h:WS V b0 g l m e W):V.heap.size<=W.heap.size:=h.tu.size
theorem WS.ltW(h:WS V b0 g l m e W):g<W.heap.size:=aN h.lt h.tu.size
theorem WW.new{w w':World}{b:Option Nat}(h:WW w b g l m e)(_hb:Below w.heap.size w w'):b≠some w.heap.size/\ w.heap.size≠g:=by
 refine⟨fun e=> ?_, ?_⟩
 · have:=h.off _ e;omega
 · have:=h.lt;omega
theorem WS.err(h:WS V b0 g l m e W):W.cell? ⟨g,1,none⟩=some (.int .i64 (e:Int))/\ W.frozen? ⟨g,1,none⟩=false:=by
 obtain⟨b,⟨A,c,L,h1,_⟩,_⟩:=h.ww;exact⟨h1.cell (i:=1) (by decide),h1.frozen 1⟩
theorem WS.aee(h:WS V b0 g l m e W)(er:Nat)(her:er≠0):WS V b0 g l m er (W.setCell ⟨g,1,none⟩ (.int .i64 (er:Int))):=by
 obtain⟨b,⟨A,c,L,h1,h2,h3,h4,h5⟩,h6⟩:=h.ww;have hs:Save g W (W.setCell ⟨g,1,none⟩ (.int .i64 (er:Int))):=(aI _ _).setCell 1 _;refine⟨⟨b,⟨A,c,L,(h1.set 1 (.int .i64 (er:Int))).congr fun i hi=> ?_,h2.save hs (Nat.lt_succ_self _),h3,fun h0=>absurd h0 her,h5⟩,h6⟩,h.tu.trans (WT.yt (b:=none) hs) (fun _ e=>by cases e),h.lt,h.off⟩;rcases(by omega:i=0∨i=1)with rfl|rfl<;>rfl
theorem WS.open(h:WS V b0 g l m e W):∃ (A:Option Addr) (c:Nat) (L:By),L.length<=c/\ W.cell? ⟨g,0,none⟩=some (.slice A L.length c)/\ OwnB W (g+1) (.slice A L.length c) L/\ Lies W W.heap.size 1 A L.length (jF L)/\ (e=0->L=l)/\ L.length<=m/\
   (∀ (w1:World) (A2:Option Addr) (c2 N2:Nat) (L2:By),N2=L2.length->Below W.heap.size W w1->OwnB w1 W.heap.size (.slice A2 N2 c2) L2->∀l2 m2,(e=0->L2=l2)->N2<=m2->
     (w1.cell? ⟨g,0,none⟩=some (.slice A L.length c)/\ w1.frozen? ⟨g,0,none⟩=false)/\ WS V b0 g l2 m2 e (w1.setCell ⟨g,0,none⟩ (.slice A2 N2 c2)))/\
   (∀ (W1:World) (a:Addr) (x:By) (c1 N2:Nat),N2=L.length+x.length->Below W.heap.size W W1->(∀j u,(jF x)[j]?=some u->W1.cell? (a.add j)=some u)->m+x.length<=1000000->
     ∃B d w2,(uZ #[78,78] 78 #[.slice A L.length c,.slice (some a) x.length c1]).run Tryz.prog W1= .ok (.slice B N2 d) w2/\ (w2.cell? ⟨g,0,none⟩=some (.slice A L.length c)/\ w2.frozen? ⟨g,0,none⟩=false)/\
       WS V b0 g (l++x) (m+x.length) e (w2.setCell ⟨g,0,none⟩ (.slice B N2 d))):=by
 obtain⟨b,⟨A,c,L,h1,h2,h3,h4,h5⟩,h6⟩:=h.ww;obtain⟨A',c',e1,hc,hl⟩:=h2.lies;injection e1 with e1 _ e3
 subst e1 e3;refine⟨A,c,L,hc,h1.cell (i:=0) (by decide),h2,hl,h4,h5,fun w1 A2 c2 N2 L2 hN hb ho l2 m2 hl2 hm2=> ?_,fun W1 a x c1 N2 hN hb hx hm=> ?_⟩
 · have a1:=h1.under hb
   refine⟨⟨a1.cell (i:=0) (by decide),a1.frozen 0⟩, ?_⟩;have hs:Save g w1 (w1.setCell ⟨g,0,none⟩ (.slice A2 N2 c2)):=(aI _ _).setCell 0 _;subst hN;obtain⟨_,_,_,_,_,hk⟩:=ho.form;have hgW:g<W.heap.size:=h1.lt;refine⟨⟨(Value.slice A2 L2.length c2).ownBlock,⟨A2,c2,L2,(a1.set 0 (.slice A2 L2.length c2)).congr fun i hi=> ?_,(ho.save hs hgW).low hgW,rfl,hl2,hm2⟩,fun k e=>Or.inr (aA h.tu.size (hk k e).1)⟩,(h.tu.trans (WT.of_below (b:=none) hb) (fun _ e=>by cases e)).trans (WT.yt (b:=none) hs) (fun _ e=>by cases e),h.lt,h.off⟩;rcases(by omega:i=0∨i=1)with rfl|rfl<;>rfl
 · obtain⟨i0,hi,hz0,hz1,hz2⟩:=info_parts Ew
   have hgW:g<W.heap.size:=h1.lt;obtain⟨v',w',hr,k2,k3,_,k5⟩:=run_append_own_at (P:=Tryz.prog) W1 (g+1) 78 78 5 i0 (.int .u8 0) 1 1 Tryz.underlying78 hi hz0 hz1 hz2 rfl (by decide) (.slice A L.length c) L.length (cellsE 1 eB L) (h2.on hb (aj _))
     a x.length c1 (jF x) (by simp [jF]) hx (by
       intro u hu;obtain⟨y,_,rfl⟩:=List.mem_map.1 hu
       rfl) (by unfold maxLen;omega) (by omega) (by have:=hb.size;omega)
   have hown2:OwnB w' (g+1) v' (L++x):=by
     show w'.ownsRow (g+1) 5 1 v' (L++x).length (cellsE 1 eB (L++x))
     rw [oJ,List.length_append,Eu x];exact k2
   obtain⟨B,d,e2,_,_,hbk⟩:=hown2.form;rw [List.length_append, <-hN]at e2;subst e2;have hvb:∀k,(Value.slice A L.length c).ownBlock=some k->g<k/\ k<W.heap.size:=fun k e=>by
     obtain⟨_,_,_,_,_,hk⟩:=h2.form;have:=hk k e;omega
   have a1:aU w' g 121 2 (wrF (.slice A L.length c) e):=(h1.under hb).grown k3 (fun e=>by have:=hvb g e.symm;omega);refine⟨B,d,w',hr,⟨a1.cell (i:=0) (by decide),a1.frozen 0⟩, ?_⟩;have hs:Save g w' (w'.setCell ⟨g,0,none⟩ (.slice B N2 d)):=(aI _ _).setCell 0 _;have t1:WT g b W1 w':=⟨k3.1,k3.2,k3.3,k3.4,fun k hk _ hb2=>k3.5 k hk (fun e=>hb2 (h3.symm.trans e.symm))⟩;have hbb:∀i,b=some i->b0=some i∨V.heap.size<=i:=h6;have hlen:(L++x).length=N2:=(by rw [List.length_append,hN]);refine⟨⟨(Value.slice B N2 d).ownBlock,⟨B,d,L++x, ?_, ?_, ?_,fun h0=>by rw [h4 h0],by rw [List.length_append];omega⟩,fun k e=> ?_⟩,((h.tu.trans (WT.of_below (b:=none) hb) (fun _ e=>by cases e)).trans t1 hbb).trans (WT.yt (b:=none) hs) (fun _ e=>by cases e),h.lt,h.off⟩
   · rw [hlen]
     refine(a1.set 0 (.slice B N2 d)).congr fun i hi=> ?_;rcases(by omega:i=0∨i=1)with rfl|rfl<;>rfl
   · rw [hlen];exact hown2.save hs (Nat.lt_succ_self _)
   · rw [hlen]
   · rcases k5 with e5|e5
     · exact h6 k (h3.symm.trans (e5.symm.trans e))
     · right
       have:W1.heap.size=k:=(by rw [e5]at e;exact Option.some.inj e);have:=h.tu.size;have:=hb.size;omega
end
def eU(e x:Nat):Nat:=if e=0 then x else e
theorem pI(e:Nat):eU e 0=e:=by unfold eU;split<;>omega
theorem gB{e x:Nat}(h:eU e x=0):e=0/\ x=0:=by
 unfold eU at h
 split at h
 · exact⟨by assumption,h⟩
 · exact absurd h (by assumption)
theorem wJ{e x:Nat}(h:e≠0):eU e x=e:=by unfold eU;rw [if_neg h]
theorem JA(x:Nat):eU 0 x=x:=rfl
theorem nH(e x y:Nat):eU (eU e x) y=eU e (eU x y):=by
 unfold eU;by_cases h:e=0<;>simp [h]
section
variable {V : World} {b0 : Option Nat} {g : Nat} {l : By} {m e : Nat}
def QE(V:World)(b0:Option Nat)(g:Nat)(l:By)(m e:Nat)(x:Ending)(W':World):Prop:=x= .returned (.tuple #[])/\ WS V b0 g l m e W'
theorem nI(is:Bool)(er:Nat)(her:er≠0)(W:World)(h:WS V b0 g l m e W):Calls Tryz.prog 63 #[.pointer (some ⟨g,0,none⟩),.bool is,.int .i64 (er:Int)] W (QE V b0 g l m (eU e (if is=true then 0 else er))):=by
 unfold QE;cases is
 · obtain⟨c1,c2⟩:=h.err
   by_cases he:e=0
   · subst he
     have hq:=h.aee er her;have H:=ah hq;have e1:(((0:Nat):Int)==0)=true:=rfl;clear h hq;go_enter Tryz.func63,Tryz.ntmps63;go_wp2
     go_end0;exact⟨rfl,H.out⟩
   · have e1:((e:Int)==0)=false:=by simp;omega
     have e2:¬ (e:Int)=0:=(by omega);have H:=ah h;have HE:=ah (wJ (x:=er) he);clear h he;go_enter Tryz.func63,Tryz.ntmps63;go_wp2
     go_end0;exact⟨rfl,by rw [HE.out];exact H.out⟩
 · have H:=ah h
   clear h;go_enter Tryz.func63,Tryz.ntmps63;go_wp2
   go_end0;exact⟨rfl,by rw [pI];exact H.out⟩
theorem fO(z:Int)(hz:0<=z)(size:Nat)(hs:size<=8)(hm:m<=1000000)(W:World)(h:WS V b0 g l m e W):Calls Tryz.prog 60 #[.pointer (some ⟨g,0,none⟩),.int .u64 z,.int .i64 (size:Int)] W (QE V b0 g (l++be size z.toNat) (m+size) e):=by
 obtain⟨n,rfl⟩:=au hz;rw [Int.toNat_natCast];obtain⟨A,c,L,-,h2,-,h4,h5,h6,h7,-⟩:=h.open;obtain⟨L2,hL2⟩:=aqx (L++be size n);obtain⟨N2,hN2⟩:=aqx (L2.length);have hlen:N2=L.length+size:=(by rw [hN2,hL2,List.length_append,kU]);have hr:=WL L n size hs A c W.heap.size false W (aj _) h4 (by omega);rw [show Ce false=0 from rfl,DT, <-hL2]at hr;have HP:Hid (Calls Tryz.prog 101 #[.slice A L.length c,.int .u64 (n:Int),.int .i64 (size:Int),.bool false] W fun x w1=>∃A2 c2,x= .returned (.slice A2 N2 c2)/\ (w1.cell? ⟨g,0,none⟩=some (.slice A L.length c)/\ w1.frozen? ⟨g,0,none⟩=false)/\ WS V b0 g (l++be size n) (m+size) e (w1.setCell ⟨g,0,none⟩ (.slice A2 N2 c2))):=by
  refine ah (hr.mono ?_);rintro x w1 ⟨v,rfl,hv,hd⟩;have ho:=bf hv;obtain⟨A2,c2,rfl,-,-⟩:=ho.lies;rw [<-hN2]at ho⊢;obtain⟨q1,q2⟩:=h7 w1 A2 c2 N2 L2 hN2 hd ho (l++be size n) (m+size) (fun h0=>by rw [hL2,h5 h0]) (by omega);exact⟨A2,c2,rfl,q1,q2⟩
 unfold QE;clear h h4 h5 h6 h7 hr hL2 hN2 hlen hz;go_enter Tryz.func60,Tryz.ntmps60;go_wp2_with(go_at_call 101;refine HP.out.mono ?_;rintro x w1 ⟨A2,c2,rfl,⟨k1,k2⟩,k3⟩;have HK:=ah k3;clear k3)
 go_end0;exact⟨rfl,HK.out⟩
end
open Go.RowKit
attribute [local go_sem ↓ high] gZ
section
variable {V : World} {b0 : Option Nat} {g : Nat} {l : By} {m e : Nat}
theorem o9(z:Int)(hz:yI z)(most size:Nat)(hs:size<=8)(hm:m<=1000000)(W:World)(h:WS V b0 g l m e W):Calls Tryz.prog 62 #[.pointer (some ⟨g,0,none⟩),.int .i64 z,.int .i64 (most:Int),.int .i64 (size:Int)] W (QE V b0 g (l++be size z.toNat) (m+size) (eU e (if inB z 0 most=true then 0 else 144))):=by
 have H:=ah h;obtain⟨z2,hz2⟩:∃y:Int,y=if 0<=z then z else z+18446744073709551616:=⟨_,rfl⟩
 have hw:IntKind.u64.wrap z=z2:=by
   rw [IntKind.wrap_u64,hz2];unfold yI at hz;by_cases h0:0<=z
   · rw [if_pos h0];omega
   · rw [if_neg h0];omega
 have hz0:0<=z2:=by
   rw [hz2];unfold yI at hz;by_cases h0:0<=z
   · rw [if_pos h0];omega
   · rw [if_neg h0];omega
 have hin:inB z 0 most=(decide (0<=z)&&decide (z<=(most:Int))):=(by simp [inB]);have HIN:Hid (∀r,inB z 0 most=r->eU e (if r=true then 0 else 144)=0->l++be size z2.toNat=l++be size z.toNat):=ah (fun r hr h0=>by
   obtain⟨_,h2⟩:=gB h0;cases r
   · simp at h2
   · rw [hin]at hr
     simp only [Bool.and_eq_true,decide_eq_true_eq]at hr;rw [hz2,if_pos hr.1])
 have HP:Hid (∀ (e1:Nat) (w1:World),WS V b0 g l m e1 w1->Calls Tryz.prog 60 #[.pointer (some ⟨g,0,none⟩),.int .u64 z2,.int .i64 (size:Int)] w1 (QE V b0 g (l++be size z2.toNat) (m+size) e1)):=ah (fun e1 w1 h1=>fO z2 hz0 size hs hm w1 h1);have HM:=ah (fun r=>nI (V:=V) (b0:=b0) (g:=g) (l:=l) (m:=m) (e:=e) r 144 (by decide) W h);obtain⟨E1,hE1⟩:=aqx (eU e (if inB z 0 most=true then 0 else 144));rw [<-hE1];have HE1:=ah hE1;clear h hz2 hz hz0 hs hm hE1;by_cases h0:0<=z
 · by_cases h1:z<=(most:Int)
   · have d0:decide (0<=z)=true:=decide_eq_true h0
     have d1:decide (z<=(most:Int))=true:=decide_eq_true h1;rw [d0,d1]at hin;have HI:=ah hin;have HM:=ah (HM.out true);clear hin;unfold QE;go_enter Tryz.func62,Tryz.ntmps62;go_wp2_with(first
      |(go_at_call 63;refine HM.out.mono ?_;rintro x w1 ⟨rfl,hs⟩;have HS:=ah hs;clear hs)
      |(go_at_call 60;refine(HP.out _ _ HS.out).mono ?_;rintro x w2 ⟨rfl,hs⟩;have HS2:=ah hs;clear hs))
     go_end0;exact⟨rfl,by have hi:=HI.out;rw [Bool.true_and]at hi;rw [HE1.out,hi];exact HS2.out.any (HIN.out true hi) (aj _)⟩
   · have d0:decide (0<=z)=true:=decide_eq_true h0
     have d1:decide (z<=(most:Int))=false:=decide_eq_false h1;rw [d0,d1]at hin;have HI:=ah hin;have HM:=ah (HM.out false);clear hin;unfold QE;go_enter Tryz.func62,Tryz.ntmps62;go_wp2_with(first
      |(go_at_call 63;refine HM.out.mono ?_;rintro x w1 ⟨rfl,hs⟩;have HS:=ah hs;clear hs)
      |(go_at_call 60;refine(HP.out _ _ HS.out).mono ?_;rintro x w2 ⟨rfl,hs⟩;have HS2:=ah hs;clear hs))
     go_end0;exact⟨rfl,by have hi:=HI.out;rw [Bool.true_and]at hi;rw [HE1.out,hi];exact HS2.out.any (HIN.out false hi) (aj _)⟩
 · have d0:decide (0<=z)=false:=decide_eq_false h0
   rw [d0]at hin;have HI:=ah hin;have HM:=ah (HM.out false);clear hin;unfold QE;go_enter Tryz.func62,Tryz.ntmps62;go_wp2_with(first
     |(go_at_call 63;refine HM.out.mono ?_;rintro x w1 ⟨rfl,hs⟩;have HS:=ah hs;clear hs)
     |(go_at_call 60;refine(HP.out _ _ HS.out).mono ?_;rintro x w2 ⟨rfl,hs⟩;have HS2:=ah hs;clear hs))
   go_end0;exact⟨rfl,by have hi:=HI.out;rw [Bool.false_and]at hi;rw [HE1.out,hi];exact HS2.out.any (HIN.out false hi) (aj _)⟩
theorem G5(is:Bool)(hm:m<=1000000)(W:World)(h:WS V b0 g l m e W):Calls Tryz.prog 103 #[.pointer (some ⟨g,0,none⟩),.bool is] W (QE V b0 g (l++be 4 (xJ is)) (m+4) e):=by
 have h1:=fO 1 (by decide) 4 (by decide) hm W h;have h0:=fO 0 (by decide) 4 (by decide) hm W h;have H1:=ah h1;have H0:=ah h0;clear h h1 h0;unfold QE;cases is
 · go_enter Tryz.func103,Tryz.ntmps103
   go_wp2_with(go_at_call 60;refine H0.out.mono ?_;rintro x w1 ⟨rfl,hs⟩;have HS:=ah hs;clear hs)
   go_end0;exact⟨rfl,HS.out⟩
 · go_enter Tryz.func103,Tryz.ntmps103
   go_wp2_with(go_at_call 60;refine H1.out.mono ?_;rintro x w1 ⟨rfl,hs⟩;have HS:=ah hs;clear hs)
   go_end0;exact⟨rfl,HS.out⟩
def nmP(s:By)(k:Nat):By:=(List.range k).map fun j=>s.getD j 0
theorem Zd(s:By)(k:Nat):nmP s (k+1)=nmP s k++ [s.getD k 0]:=by simp [nmP,List.range_succ]
theorem abq{s:By}(h:s.length<=16):nmP s 16=qQ s:=by
 refine List.ext_getElem? fun i=> ?_;unfold nmP qQ;by_cases hi:i<s.length
 · rw [List.getElem?_append_left hi]
   simp [show i<16 by omega,hi]
 · rw [List.getElem?_append_right (by omega)]
   by_cases h16:i<16
   · simp [h16,hi,show i-s.length<16-s.length by omega]
   · simp [h16,show¬i-s.length<16-s.length by omega]
theorem VG(x:Int)(w:World):(Instr.buildSlice 78 1 #[(0,.int .u8 x)]).run Tryz.prog w= .ok (.slice (some ⟨w.heap.size,0,none⟩) 1 1) (w.alloc (.cells #[.int .u8 x] 5)):=by
 obtain⟨i0,hi,hz0,hz1,hz2⟩:=info_parts Ew;refine run_buildSlice (P:=Tryz.prog) w 78 5 1 _ _ i0 (.int .u8 0) Tryz.underlying78 hi hz0 (by rw [hz1];decide) (by rw [hz1];decide) ?_;rw [hz1]
 kernel_rfl
theorem WS.byte{W:World}(h:WS V b0 g l m e W)(hm:m<=900000)(x:UInt8):∃ (A:Option Addr) (c N:Nat) (B:Option Addr) (d:Nat) (w2:World),W.cell? ⟨g,0,none⟩=some (.slice A N c)/\
  (uZ #[78,78] 78 #[.slice A N c,.slice (some ⟨W.heap.size,0,none⟩) 1 1]).run Tryz.prog (W.alloc (.cells #[.int .u8 (x.toNat:Int)] 5))= .ok (.slice B (N+1) d) w2/\ (w2.cell? ⟨g,0,none⟩=some (.slice A N c)/\ w2.frozen? ⟨g,0,none⟩=false)/\
  WS V b0 g (l++ [x]) (m+1) e (w2.setCell ⟨g,0,none⟩ (.slice B (N+1) d)):=by
 obtain⟨A,c,L,-,h2,-,-,-,-,-,happ⟩:=h.open;obtain⟨B,d,w2,hr,hc,hw⟩:=happ (W.alloc (.cells #[.int .u8 (x.toNat:Int)] 5)) ⟨W.heap.size,0,none⟩ [x] 1 (L.length+1) rfl ((aC _ _).alloc (aj _) _) (fun j u hu=>by
  have e:((⟨W.heap.size,0,none⟩:Addr).add j)=⟨W.heap.size,j,none⟩:=(by unfold Addr.add;by_cases h0:j=0<;>simp [h0]);rw [e,cell_of_row _ W.heap.size j _ 5 (0,0) (heap_alloc_new W _), <-Array.getElem?_toList];exact hu) (by simp;omega)
 exact⟨A,c,L.length,B,d,w2,h2,hr,hc,hw⟩
theorem VH(s:By)(hl:s.length<=1000000)(hm:m<=800000)(W:World)(h:WS V b0 g l m e W):Calls Tryz.prog 102 #[.pointer (some ⟨g,0,none⟩),.string (strOf s)] W (QE V b0 g (l++qQ s) (m+16) (eU e (if jD s=true then 0 else 143))):=by
 have HM:=ah (nI (jD s) 143 (by decide) W h);have HN:=ah (fun W=>Ud s hl W);obtain⟨e1,he1⟩:=aqx (eU e (if jD s=true then 0 else 143));have HE1:Hid (e1=0->l++nmP s 16=l++qQ s):=ah (fun h0=>by
  rw [he1]at h0;obtain⟨_,h2⟩:=gB h0;cases hn:jD s
  · rw [hn]at h2;simp at h2
  · unfold jD at hn
    simp only [Bool.and_eq_true,decide_eq_true_eq]at hn;rw [abq hn.2])
 rw [<-he1]at HM⊢;obtain⟨S,hS⟩:=aqx (strOf s);rw [<-hS]at HN⊢;have hsz:S.size=s.length:=(by rw [hS,oP]);have V7:=ah hS;obtain⟨r,hr⟩:=aqx (jD s);rw [<-hr]at HM HN;have hm1:m<=900000-16:=(by omega);clear hS h hr he1 hm;unfold QE;go_enter Tryz.func102,Tryz.ntmps102;go_wp2_with(first
  |(go_at_call 138;refine(HN.out _).mono ?_;rintro x w1 ⟨rfl,rfl⟩)
  |(go_at_call 63;refine HM.out.mono ?_;rintro x w1 ⟨rfl,hs⟩;have HS:=ah hs;clear hs))
 go_loopw [4,5] (fun j _ W=>∃k:Nat,k<=16/\ j= .int .i64 k/\ Hid (WS V b0 g (l++nmP s k) (m+k) e1 W)) (fun i _ _=>16-(intOf i).toNat)
 case atStart=>exact⟨0,aB _,rfl,ah (HS.out.any (fun _=>by simp [nmP]) (aj _))⟩
 case round=>
  obtain⟨k,hk,rfl,HW⟩:=hrel;obtain⟨W,hW⟩:=aqx wr;subst hW;by_cases hlt:k<16
  · have d1:(k:Int)<16:=by omega
    obtain⟨x,hx⟩:=aqx (s.getD k 0);have hsu:=Zd s k;rw [<-hx]at hsu;obtain⟨A,c,N,B,d,w2,q1,q2,⟨q3,q4⟩,q5⟩:=HW.out.byte (by omega) x;rw [List.append_assoc, <-hsu]at q5;have HN2:Hid (WS V b0 g (l++nmP s (k+1)) (m+(k+1)) e1 (w2.setCell ⟨g,0,none⟩ (.slice B (N+1) d))):=ah q5;have hbt:=VG (x.toNat:Int) W;clear q5 hsu;by_cases hks:k<s.length
    · have DR:k<S.size:=by omega
      have hkI:(k:Int)< (s.length:Int):=(by omega);have hc:S[k]=x:=by
       have h0:=V7.out;subst h0;rw [hx,List.getD_eq_getElem?_getD,aF hks]
       rfl
      have hc2:(S[k]'DR).toNat=x.toNat:=(by rw [hc]);clear hx hc;go_wp2_with fail
      go_roundw
      case rel=>exact⟨k+1,by omega,by go_num,HN2⟩
      case measure=>simp [intOf];omega
    · have hkI:¬ (k:Int)< (s.length:Int):=by omega
      have hx0:(x.toNat:Int)=0:=(by rw [hx,List.getD_eq_getElem?_getD,List.getElem?_eq_none (by omega)];rfl);rw [hx0]at q2 hbt;clear hx hx0;go_wp2_with fail
      go_roundw
      case rel=>exact⟨k+1,by omega,by go_num,HN2⟩
      case measure=>simp [intOf];omega
  · obtain rfl:k=16:=by omega
    go_wp2_with fail
    go_end0;exact⟨rfl,HW.out.any HE1.out (aj _)⟩
end
open Go.RowKit
def Dz(qA:Int)(root seed:Nat->UInt8):Nat->Value
 |0=> .int .u32 qA
 |i+1=>if i<32 then oM root i else oM seed (i-32)
theorem BF(qA:Int)(root seed:Nat->UInt8)(n:Nat):∀i,i<n->(Dz qA root seed i).oneCell'=true:=by
 intro i _;unfold Dz
 split
 · rfl
 · split<;>rfl
theorem Ze:(Tryz.prog.info? 160).map (·.size)=some 32:=by kernel_rfl
theorem BG:(Tryz.prog.info? 162).map (·.size)=some 65:=by kernel_rfl
theorem TA(w:World):(zeroValue 162).run Tryz.prog w= .ok (.agg (vec 65 (Dz 0 zb zb))) w:=
 (zero_of_info (P:=Tryz.prog) (t:=162) (v:= .agg (vec 65 (Dz 0 zb zb))) (n:=65) (by kernel_rfl)).1 w
attribute [local go_sem ↓ high] TA
theorem OD(a:Addr)(c:Nat)(w:World):(Instr.arrayAt 160 (.slice (some a) 32 c)).run Tryz.prog w= .ok (.pointer (some a)) w:=by
 simp [Instr.arrayAt,run_underlying Tryz.underlying160]
theorem G6{fn:Func}{p q:Tmp}{ty:TypeId}{P:Program}{w:World}(h:fn.results= #[.cell p ty,.tmp q])(tmps:Array Value)(g:Nat)(v:Value)
  (ha:tmps.getD p undef= .pointer (some ⟨g,0,none⟩)) (hl:(loadVar ty ⟨g,0,none⟩).run P w= .ok v w):(results fn tmps).run P w= .ok (.tuple #[v,tmps.getD q undef]) w:=by
 have hp':tmps[p]?.getD undef= .pointer (some ⟨g,0,none⟩):=(by simpa using ha);simp [results,h,hp',asAddr,hl]
theorem QF{w:World}{p:Addr}{k:By}(hk:k.length=68)(hp:p.block<w.heap.size)(hc:∀i,i<68->w.cell? (p.add i)=some (oM (kF k) i)):Lies w w.heap.size 1 (some p) 68 (jF k):=by
 refine⟨by simp [jF,hk],fun _=>⟨p,rfl,hp,fun j hj=> ?_⟩⟩;have hj2:j<68:=(by simp [jF]at hj;omega);rw [hc j hj2];simp [jF,oM,kF,hk,hj2]
def aiE(k:By)(w:World)(x:Ending)(w':World):Prop:=∃f:Nat->Value,x= .returned (.tuple #[.agg (vec 65 f),.int .i64 (((if Ij k=true then 0 else 80:Nat)):Int)])/\ (∀i,i<65->(f i).oneCell'=true)/\ Below w.heap.size w w'
theorem Zf(k:By)(hk:k.length=68)(a:Addr)(c:Nat)(hc:68<=c)(w:World)(hab:a.block<w.heap.size)(hl:∀i,i<68->w.cell? (a.add i)=some (oM (kF k) i)):Calls Tryz.prog 104 #[.slice (some a) 68 c] w (aiE k w):=by
 obtain⟨V,hV⟩:=aqx (w.alloc (.cells (vec 65 (Dz 0 zb zb)) 162));have h0:aU V w.heap.size 162 65 (Dz 0 zb zb):=(by rw [hV];exact aU.new w _ _ _);have hB:Below w.heap.size w V:=(by rw [hV];exact(aC _ _).alloc (aj _) _);have hlV:=((QF hk hab hl).below hB).wide hB.size;have hnum:=O9 k (some a) c V.heap.size 0 4 false (by decide) V (by rw [hk];decide) (by rw [hk];exact hlV);rw [hk,II k hk]at hnum;obtain⟨qA,hn⟩:=aqx (val (k.take 4));have alu:qA<4294967296:=by
   have:=Wy (k.take 4);rw [<-hn]at this;refine aN this ?_;have:(k.take 4).length=4:=(by simp;omega);rw [this];decide
 have hko:Ij k=Pn qA:=(by rw [hn];rfl);rw [<-hn]at hnum;have c1:∀i,i<32->w.cell? ((a.add 4).add i)=some (oM (fun j=>kF k (4+j)) i):=fun i hi=>by rw [addr_add_add];exact hl (4+i) (by omega)
 have c2:∀i,i<32->w.cell? ((a.add 36).add i)=some (oM (fun j=>kF k (36+j)) i):=fun i hi=>by rw [addr_add_add];exact hl (36+i) (by omega)
 have HN:=ah hnum;have i36:(36:Int)<=(c:Int):=(by omega);have i4:¬c=4:=(by omega);have j36:¬c=36:=(by omega);have hwn:IntKind.u32.wrap (qA:Int)=(qA:Int):=(by rw [IntKind.wrap_u32];omega);have HA:=ah (ak h0 hB);obtain⟨root,hroot⟩:∃r:Nat->UInt8,r=fun j=>kF k (4+j):=⟨_,rfl⟩;obtain⟨seed,aco⟩:∃r:Nat->UInt8,r=fun j=>kF k (36+j):=⟨_,rfl⟩;rw [<-hroot]at c1;rw [<-aco]at c2;have hcV:∀ {p:Addr} {u:Value},p.block<w.heap.size->w.cell? p=some u->V.cell? p=some u:=(fun hp hu=>(hB.cell hp).trans hu);have HC:=ah (ak hab (ak (fun i (hi:i<32)=>hcV (p:=(a.add 4).add i) (by rw [dA,dA];exact hab) (c1 i hi)) (fun i (hi:i<32)=>hcV (p:=(a.add 36).add i) (by rw [dA,dA];exact hab) (c2 i hi))));have HW:=ah hV;have HH:=ah (fun W=>LQ qA alu W);have HE:Hid ((if Ij k=true then 0 else 80:Nat)=if Pn qA=true then 0 else 80):=ah (by rw [hko]);unfold aiE;obtain⟨ke,hke⟩:∃ke:Nat,ke=if Ij k=true then 0 else 80:=⟨_,rfl⟩
 obtain⟨is,his⟩:=aqx (Pn qA);rw [<-hke, <-his]at HE;rw [<-hke];rw [<-his]at HH;obtain⟨ht,hht⟩:=aqx (Ub qA);rw [<-hht]at HH;clear hV h0 hB hlV hnum hn hko c1 c2 hroot aco hcV hke his hht hl hab hk;cases is
 · obtain rfl:ke=80:=HE.out
   clear HE;go_enter Tryz.func104,Tryz.ntmps104;go_upto_region 1 with fail
   rw [<-HW.out];clear HW;go_wp2_with(first
    |(go_at_call 139;refine HN.out.mono ?_;rintro e w1 ⟨rfl,hw1⟩;rw [<-hw1];clear hw1)
    |(go_at_call 140;refine(HH.out _).mono ?_;rintro e w1 ⟨rfl,hw1⟩;rw [<-hw1];clear hw1)
    |((with_reducible refine aqy (.build _ _) ?_);refine dh rfl 162 _ rfl (vec 65 (Dz 0 zb zb)) (by kernel_rfl) ?_)
    |((with_reducible refine aqy (.store _ _ _) ?_);refine bD rfl 162 _ _ rfl _ rfl _ rfl (aS HA.out.1 (Dz 0 zb zb) BG (BF _ _ _ _)) ?_))
   exact bodyPost_ret (G6 rfl _ _ _ rfl (aQ (HA.out.1.row _) Tryz.underlying162 rfl BG)) rfl ⟨_,rfl,BF _ _ _ _,bg HA.out.2 (aj _) _⟩
 · obtain rfl:ke=0:=HE.out
   clear HE;go_enter Tryz.func104,Tryz.ntmps104;go_upto_region 1 with fail
   rw [<-HW.out];clear HW;go_upto_region 5 with(first
    |(go_at_call 139;refine HN.out.mono ?_;rintro e w1 ⟨rfl,hw1⟩;rw [<-hw1];clear hw1)
    |(go_at_call 140;refine(HH.out _).mono ?_;rintro e w1 ⟨rfl,hw1⟩;rw [<-hw1];clear hw1))
   refine wp_region_held_drew (S:=fun Y=>Save w.heap.size V Y/\ ∃f,aU Y w.heap.size 162 65 f) (by kernel_rfl) ⟨aH (VS.begin V),_,HA.out.1⟩ (fun hS=> ?_);refine tA 0 ?_;refine tP 1 (v:= .int .u32 (qA:Int)) (hy:=by(intro W hW;(try dsimp only at hW);go_simp;(try with_reducible rfl))) ?_;refine tA 2 ?_;refine tP 3 (v:= .slice (some (a.add 4)) 32 (c-4)) (hy:=by(intro W hW;clear hW;go_simp;(try with_reducible rfl);(try(intro h;omega)))) ?_;refine tP 4 (v:= .pointer (some (a.add 4))) (hy:=by(intro W hW;clear hW;have har:=OD ⟨a.block,a.off+4,none⟩ (c-4) W;go_simp;(try with_reducible rfl))) ?_;refine tP 5 (v:= .agg (vec 32 (oM root))) (hy:=by(intro W hW;exact dI 160 _ rfl (a.add 4) rfl _ (aW (fun i hi=>(hW.1.cell (p:=(a.add 4).add i) (by rw [dA,dA];exact aN HC.out.1 HA.out.2.size) (by rw [dA,dA];exact Nat.ne_of_lt HC.out.1)).trans (HC.out.2.1 i hi)) Tryz.underlying160 rfl Ze))) ?_;refine tA 6 ?_;refine tP 7 (v:= .slice (some (a.add 36)) 32 (c-36)) (hy:=by(intro W hW;clear hW;go_simp;(try with_reducible rfl);(try(intro h;omega)))) ?_;refine tP 8 (v:= .pointer (some (a.add 36))) (hy:=by(intro W hW;clear hW;have har:=OD ⟨a.block,a.off+36,none⟩ (c-36) W;go_simp;(try with_reducible rfl))) ?_;refine tP 9 (v:= .agg (vec 32 (oM seed))) (hy:=by(intro W hW;exact dI 160 _ rfl (a.add 36) rfl _ (aW (fun i hi=>(hW.1.cell (p:=(a.add 36).add i) (by rw [dA,dA];exact aN HC.out.1 HA.out.2.size) (by rw [dA,dA];exact Nat.ne_of_lt HC.out.1)).trans (HC.out.2.2 i hi)) Tryz.underlying160 rfl Ze))) ?_;refine tP 10 (v:= .agg (vec 65 (Dz (qA:Int) root seed))) (hy:=by(intro W hW;exact bP 162 _ rfl (vec 65 (Dz (qA:Int) root seed)) (by kernel_rfl) W)) ?_;refine oQ 11 fun nN dN=> ?_;obtain⟨fR,hR⟩:=hS.2;refine dX 162 _ _ rfl _ rfl _ rfl (aS hR (Dz (qA:Int) root seed) BG (BF _ _ _ _)) ?_;have hRR:=hR.row (Dz (qA:Int) root seed);refine dN _ _ ⟨hS.1.setRow _,_,hRR⟩ (fun dB=> ?_);have HF:=ah hRR;clear dN nN hRR;refine tA 12 ?_;refine wpAnyH_done (by kernel_rfl) ?_ _;go_wp2
   exact bodyPost_ret (G6 rfl _ _ _ rfl (aQ HF.out Tryz.underlying162 rfl BG)) rfl ⟨_,rfl,BF _ _ _ _,HA.out.2.trans (dB.1.below (aj _) HA.out.2.size)⟩
end Go.Proofs.YtkaipknkjocfiaaGreat
