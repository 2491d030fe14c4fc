import Derived.Sort.CutIn
import Derived.Maps.AppendAt
import Derived.Test.YtkaipknkjocfiaaGreatZd9
set_option maxRecDepth 100000
set_option maxHeartbeats 64000000
namespace Go.Proofs.YtkaipknkjocfiaaGreat
open Go.RowKit Go.Shelf
attribute [local go_sem] Oper.semAt_some
attribute [local go_sem ↓ high] sW zu
abbrev MB:= { m:Mp//Cj m }
def ajW(x:MB):Array Value:= #[.agg (vec 5 (kK x.1))]
def jR(g:Int)(c:Ch):Nat->List Mp
 |0=>[]
 |1=>if c.a.bK=g then [uO c c.a]else []
 |_=>sK g c
theorem Pq(g:Int)(c:Ch){j:Nat}(hj:j<=2):jR g c j<+:sK g c:=by
 match j,hj with
 |0,_=>exact List.nil_prefix
 |1,_=>exact List.prefix_append _ _
 |2,_=>exact List.prefix_refl _
theorem WV(g:Int)(dH:List Ch){k j:Nat}(hk:k<dH.length)(hj:j<=2):(dH.take k).flatMap (sK g)++jR g dH[k] j<+:dH.flatMap (sK g):=by
 have e:dH.flatMap (sK g)=((dH.take k).flatMap (sK g)++sK g dH[k])++(dH.drop (k+1)).flatMap (sK g):=by
  conv=>lhs;rw [<-List.take_append_drop (k+1) dH]
  rw [List.flatMap_append,aO hk,List.flatMap_append,List.flatMap_singleton]
 rw [e];exact((List.prefix_append_right_inj _).2 (Pq g _ hj)).trans (List.prefix_append _ _)
theorem Uh(g:Int)(dH:List Ch){k:Nat}(hk:k<dH.length):(dH.take (k+1)).flatMap (sK g)=(dH.take k).flatMap (sK g)++jR g dH[k] 2:=by
 rw [aO hk,List.flatMap_append,List.flatMap_singleton];rfl
theorem aas{g:Int}{y:Ch}(h:y.a.bK=g):jR g y 1=jR g y 0++ [uO y y.a]:=if_pos h
theorem aat{g:Int}{y:Ch}(h:¬y.a.bK=g):jR g y 1=jR g y 0:=if_neg h
theorem aau{g:Int}{y:Ch}(h:y.b.bK=g):jR g y 2=jR g y 1++ [uO y y.b]:=by show sK g y=(if y.a.bK=g then [uO y y.a]else [])++ [uO y y.b];unfold sK;rw [if_pos h]
theorem aav{g:Int}{y:Ch}(h:¬y.b.bK=g):jR g y 2=jR g y 1:=by show sK g y=(if y.a.bK=g then [uO y y.a]else []);unfold sK;rw [if_neg h,List.append_nil]
theorem abX{c:Ch}{e:En}(hc:Ui c)(he:EnB e):Cj (uO c e):=⟨dZ he.2.2,dZ hc.1,dZ hc.2.1⟩
theorem zx{α:Type}{l k:List α}{x:α}(h:l++ [x]<+:k):l.length<k.length:=by
 have:=h.length_le;rw [List.length_append,List.length_singleton]at this;omega
theorem KN.blk{n0 B:Nat}{W X:World}{g:Nat}{t:TypeId}{cs:Array Value}(h:KN n0 B W X)(hb:fB W g t cs)(ht:¬Ah t):fB X g t cs:=h.cells _ _ _ _ hb ht
theorem KN.arr{n0 B n:Nat}{W X:World}{g:Nat}{t:TypeId}{f:Nat->Value}(h:KN n0 B W X)(hb:aU W g t n f)(ht:¬Ah t):aU X g t n f:=h.cells _ _ _ _ hb ht
theorem KN.row{α:Type}{n0 B n:Nat}{enc:α->Nat->Value}{W X:World}{A:Option Addr}{l:List α}(h:KN n0 B W X)(hr:bI n enc W n0 A l):bI n enc X n0 A l:=hr.same fun p hp=>by unfold World.cell?;rw [h.low _ hp]
theorem own_below{J:List MB->World->Prop}{W X Y:World}{s:List MB}(hA:OwnFrom W.heap.size J)(h:J s X)(hb:Below X.heap.size X Y):J s Y:=hA _ _ _ none h (sZ hb) (fun r e=>by cases e)
theorem WX(v:Value)(g:Int)(w:World)(hv:v.oneCell'=true):Calls Tryz.prog 131 #[v,.int .i64 g] w fun e w'=>e= .returned (.func (.func 163) #[] #[.pointer (some ⟨w.heap.size,0,none⟩),.pointer (some ⟨w.heap.size+1,0,none⟩)])/\ w'=(w.alloc (.cells #[v] 29)).alloc (.cells #[.int .i64 g] 3):=by
 go_enter Tryz.func131,Tryz.ntmps131;go_wp2
 go_ret;exact⟨rfl,rfl⟩
theorem WY(n:Nat)(n0 B3 B4 N:Nat)(A2:Option Addr)(d:Nat)(dH:List Ch)(g:Int)(w:World)(hrow:bI 8 kJ w n0 A2 dH)(hn0:n0<=w.heap.size)
  (h3:fB w B3 29 #[.slice A2 dH.length d]) (h4:fB w B4 3 #[.int .i64 g]) (hb:∀c∈dH,Ui c) (hN:(dH.flatMap (sK g)).length<=N) (hl:dH.length<=1000000):
  JK n Tryz.prog 163 #[.pointer (some ⟨B3,0,none⟩),.pointer (some ⟨B4,0,none⟩)] ajW (KN n0) (fun ys=>ys.map Subtype.val=dH.flatMap (sK g)) (fun pre=>pre.map Subtype.val<+:dH.flatMap (sK g)) N w:=by
 intro lp J Jx W hW hA _ hY h0;have hnW:n0<=W.heap.size:=aA hn0 hW.size;have hrW:bI 8 kJ W n0 A2 dH:=(hrow.same fun p hp=>hW.cell (by omega));have s0:=(h3.under hW).cellAt 0 (v:= .slice A2 dH.length d) rfl;have hB4:=h4.under hW;obtain⟨M,hM⟩:=aqx (dH.length);have HM:=ah hM;have hMl:M<=1000000:=(by omega);have HJ:=ah h0;have HA:=ah hA;have HY:=ah hY;have HRW:=ah hrW;have HB4:=ah hB4;have JL:=ah hb;have yH:=ah hN;rw [<-hM]at s0;clear h0 hA hY hW hB4 hrow h3 h4 hb hN hM hl hrW;refine callsIn_of_wp Tryz.func163 rfl trivial ?_ rfl;simp only [Tryz.ntmps163,List.size_toArray,List.length_cons,List.length_nil,Nat.reduceAdd,Nat.reduceSub,Array.replicate_succ,Array.replicate_zero,List.push_toArray,List.append_toArray,List.nil_append,List.cons_append]
 gi_wp2
 gi_loopw [10] (fun i wr=>∃ (k:Nat) (pre:List MB),k<=M/\ i= .int .i64 k/\ Hid (pre.map Subtype.val=(dH.take k).flatMap (sK g)/\ J pre wr/\ KN n0 W.heap.size W wr)) (fun i _=>M-(intOf i).toNat)
 case atStart=>exact⟨0,[],aB _,rfl,ah ⟨rfl,HJ.out,KN.refl _ _ _⟩⟩
 case round=>
  obtain⟨k,pre,hk,rfl,hR⟩:=hrel;obtain⟨V,hV⟩:=aqx wr;subst hV;by_cases hlt:k<M
  · have zy:k<dH.length:=by rw [<-HM.out];exact hlt
    obtain⟨a0,p,rfl,hp,-,hcp⟩:=(hR.out.2.2.row HRW.out).at zy;obtain⟨y,hy⟩:=aqx (dH[k]);rw [<-hy]at hcp;have DU:Hid (Ui y):=ah (by rw [hy];exact JL.out _ (ay zy));have afd:Hid (∀j,j<=2->(dH.take k).flatMap (sK g)++jR g y j<+:dH.flatMap (sK g)):=ah fun j hj=>by rw [hy];exact WV g dH zy hj
    have xF:Hid ((dH.take (k+1)).flatMap (sK g)=(dH.take k).flatMap (sK g)++jR g y 2):=ah (by rw [hy];exact Uh g dH zy);obtain⟨r,hr⟩:=aqx (V.heap.size);obtain⟨X,hX⟩:=aqx ((V.alloc (.cells (vec 8 (kJ Uf)) 47)).setRow V.heap.size (vec 8 (kJ y)));have b1:Below V.heap.size V X:=(by rw [hX];exact bg ((aC _ _).alloc (aj _) _) (aj _) _);have a1:aU X r 47 8 (kJ y):=(by rw [hX,hr];exact(aU.new V _ _ _).row _);have pq:Hid (KN n0 W.heap.size W X):=ah (hR.out.2.2.trans (KN.of_below b1 (aA hnW hR.out.2.2.size)));have HJX:Hid (J pre X):=ah (own_below HA.out hR.out.2.1 b1);have HPV:=ah hR.out.1;have HAC:=ah a1;have gI:=ah hcp;have HX:=ah hX;have HRR:=ah hr;have WZ:Hid (∀i,i<6->X.cell? ((⟨r,2,none⟩:Addr).add i)=some (yG y.a y.b i)):=ah (fun i hi=>by
     rw [lF,HAC.out.cell (by omega),Nat.add_comm 2 i]
     rfl)
    have hki:(k:Int)< (M:Int):=(by omega);clear hcp hr hX b1 a1 hy zy hR
    gi_wp2_with (first
     |((with_reducible show wpListIn _ _ _ _ _ (Oper.mk _ (.load 47 _) _ _ _ _::_) _ _);refine jG lG rfl (by intro c e;cases e) (dI 47 _ rfl p rfl _ (aW gI.out Tryz.underlying47 rfl nJ)) ?_)
     |((with_reducible show wpListIn _ _ _ _ _ (Oper.mk _ (.store 47 _ _) _ _ _ _::_) _ _);refine ni rfl 47 _ _ rfl _ rfl _ rfl (aS (aU.new V _ _ _) (kJ y) nJ (vV _ _)) ?_;rw [<-HX.out, <-HRR.out];clear HX HRR)
     |((with_reducible show wpListIn _ _ _ _ _ (Oper.mk _ (.load 45 _) _ _ _ _::_) _ _);refine jG lG rfl (by intro c e;cases e) (dI 45 _ rfl ⟨r,2,none⟩ rfl _ (aW WZ.out Tryz.underlying45 rfl Pv)) ?_))
    gi_loopw [16] (fun i wr=>∃ (j:Nat) (pre2:List MB),j<=2/\ i= .int .i64 j/\ Hid (pre2.map Subtype.val=(dH.take k).flatMap (sK g)++jR g y j/\ J pre2 wr/\ KN n0 W.heap.size X wr)) (fun i _=>2-(intOf i).toNat)
    case atStart=>exact⟨0,pre,aB _,rfl,ah ⟨by rw [HPV.out];exact(List.append_nil _).symm,HJX.out,KN.refl _ _ _⟩⟩
    case round=>
     obtain⟨j,pre2,hj,rfl,hZ⟩:=hrel;obtain⟨Z,hZ0⟩:=aqx wr;subst hZ0;clear HJX HPV gI WZ;rcases(by omega:j=0∨j=1∨j=2)with rfl|rfl|rfl
     · skip
       obtain⟨z,hz⟩:=aqx (y.a);have Fh:Hid (∀W:World,(Instr.index 45 (.agg (vec 6 (yG y.a y.b))) (.int .i64 0)).run Tryz.prog W= .ok (.agg (vec 3 (dY z))) W):=ah (fun W=>by rw [hz];exact Px y.a y.b W);have je:Hid (z.bK=g->jR g y 1=jR g y 0++ [uO y z]):=ah (fun h=>by rw [hz]at h⊢;exact aas h);have zB:Hid (¬z.bK=g->jR g y 1=jR g y 0):=ah (fun h=>by rw [hz]at h;exact aat h);have Uj:Hid (Cj (uO y z)):=ah (abX DU.out (by rw [hz];exact DU.out.2.2.1));obtain⟨u,hu⟩:=aqx (Z.heap.size);obtain⟨X3,uF⟩:=aqx ((Z.alloc (.cells (vec 3 (dY Ue)) 44)).setRow Z.heap.size (vec 3 (dY z)));have b3:Below Z.heap.size Z X3:=(by rw [uF];exact bg ((aC _ _).alloc (aj _) _) (aj _) _);have a3:aU X3 u 44 3 (dY z):=(by rw [uF,hu];exact(aU.new Z _ _ _).row _);have Fj:Hid (KN n0 W.heap.size X X3):=ah (hZ.out.2.2.trans (KN.of_below b3 (aA (aA hnW pq.out.size) hZ.out.2.2.size)));have HJ3:Hid (J pre2 X3):=ah (own_below HA.out hZ.out.2.1 b3);have HPZ:=ah hZ.out.1;have a4:=Fj.out.arr HAC.out (by decide);have q4:X3.cell? ⟨B4,0,none⟩=some (.int .i64 g):=(((pq.out.trans Fj.out).blk HB4.out (by decide)).cellAt 0 rfl);have Aa:=ah uF;have HU:=ah hu;have c0:X3.cell? ⟨r,0,none⟩=some (.int .u64 y.pa):=a4.cell (i:=0) (by decide);have c1:X3.cell? ⟨r,1,none⟩=some (.int .u64 y.size):=a4.cell (i:=1) (by decide);have d0:X3.cell? ⟨u,0,none⟩=some (.int .i64 z.bK):=a3.cell (i:=0) (by decide);have d1:X3.cell? ⟨u,1,none⟩=some (.int .i64 z.perm):=a3.cell (i:=1) (by decide);have d2:X3.cell? ⟨u,2,none⟩=some (.int .u64 z.fZ):=a3.cell (i:=2) (by decide);clear hz hu uF b3 a3 a4 hZ;by_cases ta:z.bK=g
       · have ta1:(z.bK==g)=true:=by simpa using ta
         have HF:=ah (je.out ta);have hpx:(pre2++ [(⟨uO y z,Uj.out⟩:MB)]).map Subtype.val=(dH.take k).flatMap (sK g)++jR g y 1:=(by rw [List.map_append,HPZ.out,HF.out,List.append_assoc];rfl);have hpp:=afd.out 1 (by decide);rw [<-hpx]at hpp;obtain⟨fn,tmps,assign,body,hy,hRR⟩:=HY.out pre2 ⟨uO y z,Uj.out⟩ X3 HJ3.out (by
           have:=zx (l:=pre2.map Subtype.val) (x:=uO y z) (by rw [List.map_append]at hpp;exact hpp);rw [List.length_map]at this;exact aN this yH.out)
         replace hy:(Instr.yield lp #[.agg #[.int .u64 z.fZ,.int .u64 y.pa,.int .u64 y.size,.int .i64 z.perm,.int .i64 0]]).run Tryz.prog X3= .ok (.round lp fn tmps assign body) X3:=hy;have HR:=ah hRR;have Uk:=ah hpp;have HPX:=ah hpx;clear hRR hpp hpx je zB
         gi_wp2_with (first
           |((with_reducible show wpListIn _ _ _ _ _ (Oper.mk _ (.index _ _ _) _ _ _ _::_) _ _);refine jG lG rfl (by intro c e;cases e) (uG 45 _ _ rfl _ rfl _ rfl _ (Fh.out _)) ?_)
           |((with_reducible show wpListIn _ _ _ _ _ (Oper.mk _ (.store 44 _ _) _ _ _ _::_) _ _);refine ni rfl 44 _ _ rfl _ rfl _ rfl (aS (aU.new Z _ _ _) (dY z) nX (lM _ _)) ?_;rw [<-Aa.out, <-HU.out];clear Aa HU))
         refine⟨fun h=>by simp [Fence.wide]at h, ?_⟩;refine HR.out.mono ?_;rintro e W3 (⟨rfl,hJ3,hk3⟩|⟨rfl,hJx3,-⟩)
         · have HN:=ah (ak hJ3 (Fj.out.trans hk3))
           clear hJ3 hk3 hy
           gi_wp2
           go_roundw
           case rel=>exact⟨1,_,by omega,by go_num,ah ⟨HPX.out,HN.out.1,HN.out.2⟩⟩
           case measure=>simp [intOf]
         · have HN:=ah hJx3
           clear hJx3 hy
           gi_wp2
           (try simp only [Exit.inBlock,Exit.then])
           refine bodyPost_ret (results_none rfl _ _ _) rfl ?_;exact⟨⟨_,rfl⟩,.inr ⟨_,Uk.out,HN.out⟩⟩
       · have ta1:(z.bK==g)=false:=by simpa using ta
         have HF:=ah (zB.out ta);clear je zB
         gi_wp2_with (first
           |((with_reducible show wpListIn _ _ _ _ _ (Oper.mk _ (.index _ _ _) _ _ _ _::_) _ _);refine jG lG rfl (by intro c e;cases e) (uG 45 _ _ rfl _ rfl _ rfl _ (Fh.out _)) ?_)
           |((with_reducible show wpListIn _ _ _ _ _ (Oper.mk _ (.store 44 _ _) _ _ _ _::_) _ _);refine ni rfl 44 _ _ rfl _ rfl _ rfl (aS (aU.new Z _ _ _) (dY z) nX (lM _ _)) ?_;rw [<-Aa.out, <-HU.out];clear Aa HU))
         refine⟨fun _ _=>trivial, ?_⟩
         go_at_K
         gi_wp2
         go_roundw
         case rel=>exact⟨1,pre2,by omega,by go_num,ah ⟨by rw [HF.out];exact HPZ.out,HJ3.out,Fj.out⟩⟩
         case measure=>simp [intOf]
     · skip
       obtain⟨z,hz⟩:=aqx (y.b);have Fh:Hid (∀W:World,(Instr.index 45 (.agg (vec 6 (yG y.a y.b))) (.int .i64 1)).run Tryz.prog W= .ok (.agg (vec 3 (dY z))) W):=ah (fun W=>by rw [hz];exact indexB y.a y.b W);have je:Hid (z.bK=g->jR g y 2=jR g y 1++ [uO y z]):=ah (fun h=>by rw [hz]at h⊢;exact aau h);have zB:Hid (¬z.bK=g->jR g y 2=jR g y 1):=ah (fun h=>by rw [hz]at h;exact aav h);have Uj:Hid (Cj (uO y z)):=ah (abX DU.out (by rw [hz];exact DU.out.2.2.2));obtain⟨u,hu⟩:=aqx (Z.heap.size);obtain⟨X3,uF⟩:=aqx ((Z.alloc (.cells (vec 3 (dY Ue)) 44)).setRow Z.heap.size (vec 3 (dY z)));have b3:Below Z.heap.size Z X3:=(by rw [uF];exact bg ((aC _ _).alloc (aj _) _) (aj _) _);have a3:aU X3 u 44 3 (dY z):=(by rw [uF,hu];exact(aU.new Z _ _ _).row _);have Fj:Hid (KN n0 W.heap.size X X3):=ah (hZ.out.2.2.trans (KN.of_below b3 (aA (aA hnW pq.out.size) hZ.out.2.2.size)));have HJ3:Hid (J pre2 X3):=ah (own_below HA.out hZ.out.2.1 b3);have HPZ:=ah hZ.out.1;have a4:=Fj.out.arr HAC.out (by decide);have q4:X3.cell? ⟨B4,0,none⟩=some (.int .i64 g):=(((pq.out.trans Fj.out).blk HB4.out (by decide)).cellAt 0 rfl);have Aa:=ah uF;have HU:=ah hu;have c0:X3.cell? ⟨r,0,none⟩=some (.int .u64 y.pa):=a4.cell (i:=0) (by decide);have c1:X3.cell? ⟨r,1,none⟩=some (.int .u64 y.size):=a4.cell (i:=1) (by decide);have d0:X3.cell? ⟨u,0,none⟩=some (.int .i64 z.bK):=a3.cell (i:=0) (by decide);have d1:X3.cell? ⟨u,1,none⟩=some (.int .i64 z.perm):=a3.cell (i:=1) (by decide);have d2:X3.cell? ⟨u,2,none⟩=some (.int .u64 z.fZ):=a3.cell (i:=2) (by decide);clear hz hu uF b3 a3 a4 hZ;by_cases ta:z.bK=g
       · have ta1:(z.bK==g)=true:=by simpa using ta
         have HF:=ah (je.out ta);have hpx:(pre2++ [(⟨uO y z,Uj.out⟩:MB)]).map Subtype.val=(dH.take k).flatMap (sK g)++jR g y 2:=(by rw [List.map_append,HPZ.out,HF.out,List.append_assoc];rfl);have hpp:=afd.out 2 (by decide);rw [<-hpx]at hpp;obtain⟨fn,tmps,assign,body,hy,hRR⟩:=HY.out pre2 ⟨uO y z,Uj.out⟩ X3 HJ3.out (by
           have:=zx (l:=pre2.map Subtype.val) (x:=uO y z) (by rw [List.map_append]at hpp;exact hpp);rw [List.length_map]at this;exact aN this yH.out)
         replace hy:(Instr.yield lp #[.agg #[.int .u64 z.fZ,.int .u64 y.pa,.int .u64 y.size,.int .i64 z.perm,.int .i64 0]]).run Tryz.prog X3= .ok (.round lp fn tmps assign body) X3:=hy;have HR:=ah hRR;have Uk:=ah hpp;have HPX:=ah hpx;clear hRR hpp hpx je zB
         gi_wp2_with (first
           |((with_reducible show wpListIn _ _ _ _ _ (Oper.mk _ (.index _ _ _) _ _ _ _::_) _ _);refine jG lG rfl (by intro c e;cases e) (uG 45 _ _ rfl _ rfl _ rfl _ (Fh.out _)) ?_)
           |((with_reducible show wpListIn _ _ _ _ _ (Oper.mk _ (.store 44 _ _) _ _ _ _::_) _ _);refine ni rfl 44 _ _ rfl _ rfl _ rfl (aS (aU.new Z _ _ _) (dY z) nX (lM _ _)) ?_;rw [<-Aa.out, <-HU.out];clear Aa HU))
         refine⟨fun h=>by simp [Fence.wide]at h, ?_⟩;refine HR.out.mono ?_;rintro e W3 (⟨rfl,hJ3,hk3⟩|⟨rfl,hJx3,-⟩)
         · have HN:=ah (ak hJ3 (Fj.out.trans hk3))
           clear hJ3 hk3 hy
           gi_wp2
           go_roundw
           case rel=>exact⟨2,_,by omega,by go_num,ah ⟨HPX.out,HN.out.1,HN.out.2⟩⟩
           case measure=>simp [intOf]
         · have HN:=ah hJx3
           clear hJx3 hy
           gi_wp2
           (try simp only [Exit.inBlock,Exit.then])
           refine bodyPost_ret (results_none rfl _ _ _) rfl ?_;exact⟨⟨_,rfl⟩,.inr ⟨_,Uk.out,HN.out⟩⟩
       · have ta1:(z.bK==g)=false:=by simpa using ta
         have HF:=ah (zB.out ta);clear je zB
         gi_wp2_with (first
           |((with_reducible show wpListIn _ _ _ _ _ (Oper.mk _ (.index _ _ _) _ _ _ _::_) _ _);refine jG lG rfl (by intro c e;cases e) (uG 45 _ _ rfl _ rfl _ rfl _ (Fh.out _)) ?_)
           |((with_reducible show wpListIn _ _ _ _ _ (Oper.mk _ (.store 44 _ _) _ _ _ _::_) _ _);refine ni rfl 44 _ _ rfl _ rfl _ rfl (aS (aU.new Z _ _ _) (dY z) nX (lM _ _)) ?_;rw [<-Aa.out, <-HU.out];clear Aa HU))
         refine⟨fun _ _=>trivial, ?_⟩
         go_at_K
         gi_wp2
         go_roundw
         case rel=>exact⟨2,pre2,by omega,by go_num,ah ⟨by rw [HF.out];exact HPZ.out,HJ3.out,Fj.out⟩⟩
         case measure=>simp [intOf]
     · gi_wp2
       go_roundw
       case rel=>exact⟨k+1,pre2,by omega,by go_num,ah ⟨by rw [xF.out];exact hZ.out.1,hZ.out.2.1,pq.out.trans hZ.out.2.2⟩⟩
       case measure=>simp [intOf];omega
  · obtain rfl:k=M:=by omega
    gi_wp2
    go_end0;exact⟨⟨_,rfl⟩,.inl ⟨_,by have h:=hR.out.1;rw [HM.out,List.take_length]at h;exact h,hR.out.2.1⟩⟩
open Go.RowKit
variable {P : Program} {α : Type}
theorem aay{B r m:Nat}{t:TypeId}{f:Nat->Value}:OwnFrom B (fun(_:Unit) W=>aU W r t m f):=fun _ X Y row hs hg hr=>
 hs.grown hg fun e=>by
  obtain⟨_,o,ho,hc⟩:=hr r e.symm;rw [show X.heap[r]?=_ from hs]at ho;cases ho
  cases hc
theorem Cm{g:Operand}{ps:Array Tmp}{assign body:Code}{Q:Exit->Act->World->Prop}{a:Act}{w:World}{n n0:Nat}(h1:1<=n)(hn0:n0<=w.heap.size)
   {gf:Nat} {lb:Array Value} (hg:a.eval g= .func (.func gf) #[] lb) (eg:∀args w,(callFunc gf args).run P w= .ok (.enter gf args) w)
   {encs:α->Array Value} {S Sp:List α->Prop} {N:Nat} {w0:World} (hseq:JK (n-1) P gf lb encs (KN n0) S Sp N w0) (hb0:Below w0.heap.size w0 w)
   (p d:Tmp) (hps:ps= #[p]) (ty:TypeId) (m:Nat) (f:α->Nat->Value) (henc:∀x,encs x= #[.agg (vec m (f x))])
   (I:List α->World->Prop) (Ix:Code->List α->World->Prop) (hI:OwnFrom w.heap.size I) (hIx:∀c,OwnFrom w.heap.size (Ix c)) (h0:I [] w) (hlow:∀pre W,I pre W->w.heap.size<=W.heap.size)
   (hassign:∀ (l:Nat) (x:α) (W:World) (K:Act->World->Prop),(∀X,Below W.heap.size W X->aU X W.heap.size ty m (f x)->K { tmps:=(a.tmps.setIfInBounds p (.agg (vec m (f x)))).setIfInBounds d (.pointer (some ⟨W.heap.size,0,none⟩)),defers:=[] } X)->
    assign.wpIn (Fence.wide.inRound l) (n-1-1) P (Exit.then K (fun _ _ _=>False)) { tmps:=a.tmps.setIfInBounds p (.agg (vec m (f x))),defers:=[] } W)
   (hbody:∀ (l:Nat) (pre:List α) (x:α) (r:Nat) (W:World),w.heap.size<=r->I pre W->aU W r ty m (f x)->pre.length<N->
    body.wpIn (Fence.wide.inRound l) (n-1-1) P (ownPostG w.heap.size (KN n0 (w.heap.size+2)) I Ix (pre++ [x]) W) { tmps:=(a.tmps.setIfInBounds p (.agg (vec m (f x)))).setIfInBounds d (.pointer (some ⟨r,0,none⟩)),defers:=[] } W)
   (hdone:∀ (D:Nat) (xs:List α) (W:World),w.heap.size<=D->S xs->I xs W->W.heap[D]?=some (.deferred (some []))->Q .normal { a with defers:= { target:= .collected D,args:= #[] }::a.defers } W)
   (hstop:∀ (D:Nat) (c:Code) (pre:List α) (W:World),w.heap.size<=D->Sp pre->Ix c pre W->W.heap[D]?=some (.deferred (some []))->c.wpIn Fence.wide n P Q { a with defers:= { target:= .collected D,args:= #[] }::a.defers } W):
   (Code.rangeFunc g ps assign body).wpIn Fence.wide n P Q a w:=by
 subst hps;refine Ul h1 hg eg hseq KN.trans (fun W l o o' h1 h2 hl ho=>KN.put (by omega) h2 hl ho) hb0 (fun x=>by rw [henc];rfl) I Ix hI hIx h0
   (fun x a' W=>∃r,w.heap.size<=r/\ a'= { tmps:=(a.tmps.setIfInBounds p (.agg (vec m (f x)))).setIfInBounds d (.pointer (some ⟨r,0,none⟩)),defers:=[] }/\ aU W r ty m (f x))
   (fun x a' s X Y row hs hg hr=>by obtain⟨r,h1,h2,h3⟩:=hs;exact⟨r,h1,h2,aay s X Y row h3 hg hr⟩) ?_ ?_ hdone hstop
 · intro l pre x W K hi hK
   have hw:=hlow pre W hi;have he:(#[p].zip (encs x)).foldl (fun t (p,v)=>t.setIfInBounds p v) a.tmps=a.tmps.setIfInBounds p (.agg (vec m (f x))):=(by rw [henc];simp);rw [he];refine hassign l x W K fun X hX hA=>hK _ X ⟨hX.size,fun k o _ hk _=>(hX.block k (Array.getElem?_eq_some_iff.1 hk).1).trans hk⟩ (KN.of_below hX (by omega)) (hI _ _ _ none hi (sZ hX) (fun r e=>by cases e)) ⟨W.heap.size,hw,rfl,hA⟩
 · rintro l pre x a' W _ hi ⟨r,h1,rfl,h3⟩ hlen
   exact hbody l pre x r W h1 hi h3 hlen
open Go.RowKit Go.Shelf
attribute [local go_sem] Oper.semAt_some
attribute [local go_sem ↓ high] nK oU zq zC Fp
abbrev RB:= { x:Rk//Cj x.m }
def encR(x:RB):Array Value:= #[.agg (vec 6 (tq x.1))]
def Ey(y:Wi):Rk:=⟨V6 y,0⟩
def KU(y:De):Rk:=⟨Um y,1⟩
def rkM(m:Mp):Rk:=⟨m,2⟩
def mQ(t:Gs)(dH:List Ch)(g:Int):List Rk:=t.wins.map Ey++(t.dG.map KU++(dH.flatMap (sK g)).map rkM)
def fP(x:Cf)(g:Int):List Rk:=match nR x g with
 |none=>[]
 |some t=>mQ t x.dH g
def zD(N:Nat)(g:Int):Bool:=decide (0<=g)&&decide (g< (N:Int))
theorem Ez(t:Gs)(dH:List Ch)(g:Int):(mQ t dH g).map Rk.m=kY t dH g:=by
 unfold mQ kY;simp only [List.map_append,List.map_map]
 congr 1
 congr 1
 exact(List.map_congr_left fun _ _=>rfl).trans (List.map_id _)
theorem IJ(ver:Int)(A:Option Addr)(N d:Nat)(c:Value)(g:Int)(w:World):Calls Tryz.prog 97 #[.agg (vec 3 (eX ver (.slice A N d) c)),.int .i64 g] w (jc (zD N g) w):=by
 have HT:Hid (zD N g=(decide (0<=g)&&decide (g< (N:Int)))):=ah rfl
 generalize zD N g=r at HT⊢
 obtain⟨q0,hq0⟩:=aqx (w.heap.size);obtain⟨V,hV⟩:=aqx (w.alloc (.cells (vec 3 (eX ver (.slice A N d) c)) 31));have k1:aU V q0 31 3 (eX ver (.slice A N d) c):=(by rw [hV,hq0];exact aU.new w _ _ _);have hB:Below w.heap.size w V:=(by rw [hV];exact(aC _ _).alloc (aj _) _);have x1:V.cell? ⟨q0,1,none⟩=some (.slice A N d):=k1.cell (i:=1) (by decide);have HW:=ah hV;have HQ:=ah hq0;have HB:=ah hB;clear hV hq0 k1 hB;unfold jc;by_cases h0:(0:Int)<=g
 · have z0:decide ((0:Int)<=g)=true:=decide_eq_true h0
   by_cases h1:g< (N:Int)
   · have z1:decide (g< (N:Int))=true:=decide_eq_true h1
     have HR:=ah (HT.out.trans (by rw [z0,z1];first|done|rfl));go_enter Tryz.func97,Tryz.ntmps97;go_upto_region 1 with fail
     rw [<-HW.out, <-HQ.out];go_wp2_with fail
     go_ret;exact⟨by rw [HR.out];rfl,HB.out⟩
   · have z1:decide (g< (N:Int))=false:=decide_eq_false h1
     have HR:=ah (HT.out.trans (by rw [z0,z1];first|done|rfl));go_enter Tryz.func97,Tryz.ntmps97;go_upto_region 1 with fail
     rw [<-HW.out, <-HQ.out];go_wp2_with fail
     go_ret;exact⟨by rw [HR.out];rfl,HB.out⟩
 · have z0:decide ((0:Int)<=g)=false:=decide_eq_false h0
   have HR:=ah (HT.out.trans (by rw [z0];first|done|rfl));go_enter Tryz.func97,Tryz.ntmps97;go_upto_region 1 with fail
   rw [<-HW.out, <-HQ.out];go_wp2_with fail
   go_ret;exact⟨by rw [HR.out];rfl,HB.out⟩
theorem IK{N:Nat}{g:Int}(h:g<0∨(N:Int)<=g):zD N g=false:=by
 unfold zD;rcases h with h|h
 · rw [decide_eq_false (by omega)];rfl
 · rw [show decide (g< (N:Int))=false from decide_eq_false (by omega),Bool.and_false]
theorem Fq{N i:Nat}(h:i<N):zD N (i:Int)=true:=by
 unfold zD;rw [decide_eq_true (by omega),decide_eq_true (by omega)];rfl
theorem IL(v:Value)(f:Nat->Value)(hv:v= .agg (vec 3 f))(g:Int)(w:World):Calls Tryz.prog 93 #[v,.int .i64 g] w fun e w'=>e= .returned (.func (.func 130) #[] #[.pointer (some ⟨w.heap.size,0,none⟩),.pointer (some ⟨w.heap.size+1,0,none⟩)])/\ w'=(w.alloc (.cells (vec 3 f) 31)).alloc (.cells #[.int .i64 g] 3):=by
 subst hv;go_enter Tryz.func93,Tryz.ntmps93;go_wp2
 go_ret;exact⟨rfl,rfl⟩
theorem ajX{y:Wi}(h:KW y):Cj (Ey y).m:=⟨dZ h.1,dZ h.2.1,dZ h.2.2.1⟩
theorem ajY{y:De}(h:W9 y):Cj (KU y).m:=⟨dZ h.1,dZ h.2.1,dZ h.2.2⟩
def toE(m:MB):RB:=⟨rkM m.1,m.2⟩
theorem RD(l:List MB):(l.map toE).map Subtype.val=(l.map Subtype.val).map rkM:=by rw [List.map_map,List.map_map];rfl
theorem Py{β:Type}{n0 B B':Nat}{w:World}(hn:n0<=w.heap.size)(h:w.heap.size<=B'):OwnFrom B' (fun(_:β) W=>KN n0 B w W):=fun s X Y row hs hg hr=>
 ⟨aA hs.size hg.size,fun k hk=>(hg.block k (by have:=hs.size;omega) fun e=>by have:=(hr k e.symm).1;omega).trans (hs.low k hk),
  fun k cs t fr hk ht=>(hg.block k (Array.getElem?_eq_some_iff.1 (hs.cells k cs t fr hk ht)).1 fun e=>by
   have h1:=(hr k e.symm).1;have h2:=(Array.getElem?_eq_some_iff.1 hk).1
   omega).trans (hs.cells k cs t fr hk ht),fun k o hB hk ho=>(hg.block k (Array.getElem?_eq_some_iff.1 (hs.others k o hB hk ho)).1 fun e=>by
   have h1:=(hr k e.symm).1;have h2:=(Array.getElem?_eq_some_iff.1 hk).1
   omega).trans (hs.others k o hB hk ho)⟩
theorem tC{β:Type}{B:Nat}{J:β->World->Prop}{X Y:World}{s:β}(hA:OwnFrom B J)(h:J s X)(hb:Below X.heap.size X Y):J s Y:=hA _ _ _ none h (sZ hb) (fun r e=>by cases e)
theorem RF{L:List Rk}{pre:List RB}{x:RB}{N:Nat}(h:(pre++ [x]).map Subtype.val<+:L)(hN:L.length<=N):pre.length<N:=by
 rw [List.map_append]at h;have:=zx (l:=pre.map Subtype.val) (x:=x.1) h;rw [List.length_map]at this;omega
theorem afh{t:Gs}{dH:List Ch}{g:Int}(k:Nat):(t.wins.take k).map Ey<+:mQ t dH g:=by
 unfold mQ;exact((List.take_prefix k t.wins).map Ey).trans (List.prefix_append _ _)
theorem afi{t:Gs}{dH:List Ch}{g:Int}(k:Nat):t.wins.map Ey++(t.dG.take k).map KU<+:mQ t dH g:=by
 unfold mQ;exact(List.prefix_append_right_inj _).2 (((List.take_prefix k t.dG).map KU).trans (List.prefix_append _ _))
theorem afj{t:Gs}{dH:List Ch}{g:Int}{l:List Mp}(h:l<+:dH.flatMap (sK g)):(t.wins.map Ey++t.dG.map KU)++l.map rkM<+:mQ t dH g:=by
 unfold mQ;rw [List.append_assoc];exact(List.prefix_append_right_inj _).2 ((List.prefix_append_right_inj _).2 (h.map rkM))
theorem IU(n:Nat)(hn:1<=n)(x:Cf)(a c:Value)(g:Int)(w0 w:World)(hx:Ai w0 w0.heap.size x a c)(hb:Aj x)(hf:qU x=true)(hbw:Below w0.heap.size w0 w)(B1 B2 N:Nat)
   (h1:aU w B1 31 3 (eX x.ver a c)) (h2:fB w B2 3 #[.int .i64 g]) (hN:(fP x g).length<=N):
   JK n Tryz.prog 130 #[.pointer (some ⟨B1,0,none⟩),.pointer (some ⟨B2,0,none⟩)] encR (KN w0.heap.size) (fun ys=>ys.map Subtype.val=fP x g) (fun pre=>pre.map Subtype.val<+:fP x g) N w:=by
 intro lp J Jx W hW hA hAx hY h0;obtain⟨n0,hn0⟩:=aqx (w0.heap.size);rw [<-hn0]at hY;have hnW:n0<=W.heap.size:=(by rw [hn0];exact aA hbw.size hW.size);obtain⟨hfg,hfc,hfa⟩:=iI hf;obtain⟨A,d,A2,d2,rfl,rfl,hch,hgu⟩:=xG hx;obtain⟨By,hBy⟩:=aqx (W.heap.size);obtain⟨V,hV⟩:=aqx (W.alloc (.cells #[.func (.yield lp) #[] #[]] 183));have bV:Below W.heap.size W V:=(by rw [hV];exact(aC _ _).alloc (aj _) _);have kV:KN n0 W.heap.size W V:=KN.of_below bV hnW;have yV:fB V By 183 #[.func (.yield lp) #[] #[]]:=(by rw [hV];exact fB.new _ _ _ hBy);have aV:aU V B1 31 3 (eX x.ver (.slice A x.gs.length d) (.slice A2 x.dH.length d2)):=(h1.under hW).under bV;have gV:fB V B2 3 #[.int .i64 g]:=(h2.under hW).under bV;have lV:∀k,k<n0->V.heap[k]?=w0.heap[k]?:=fun k hk=>by
   rw [kV.low k hk,hW.block k (by have:=hbw.size;omega),hbw.block k (by omega)]
 have jV:J [] V:=(by rw [hV];exact hA.alloc _ h0);have hgl:x.gs.length<=1000000:=(by omega);have HV:=ah hV;have HBY:=ah hBy;have HA:=ah hA;have ou:=ah hAx;have HY:=ah hY;have HJ:=ah jV;have qV:=ah (ak aV (ak gV yV));have HLV:=ah lV;have yH:=ah hN;have HKV:=ah kV;have b2:=gV.cellAt 0 rfl;obtain⟨NG,xu⟩:=aqx (x.gs.length);obtain⟨NC,JM⟩:=aqx (x.dH.length);rw [<-xu, <-JM]at qV;have RG:=ah (fun X=>IJ x.ver A NG d (.slice A2 NC d2) g X);by_cases hno:g<0∨(x.gs.length:Int)<=g
 · have hpg:fP x g=[]:=by unfold fP;rw [vW hno]
   rw [<-xu]at hno;rw [IK hno]at RG;have xw:=ah hpg;clear hx hb hf hbw h1 h2 hN hW hA hAx hY h0 hfg hfc hfa hch hgu hBy hV bV kV yV aV gV lV jV hgl xu JM hno hpg;unfold jc at RG;refine callsIn_of_wp Tryz.func130 rfl trivial ?_ rfl;simp only [Tryz.ntmps130,List.size_toArray,List.length_cons,List.length_nil,Nat.reduceAdd,Nat.reduceSub,Array.replicate_succ,Array.replicate_zero,List.push_toArray,List.append_toArray,List.nil_append,List.cons_append]
   gi_wp2_with (first
    |((with_reducible show wpListIn _ _ _ _ _ (Oper.mk _ (.load 31 _) _ _ _ _::_) _ _);rw [<-HV.out, <-HBY.out];refine jG lG rfl (by intro c e;cases e) (bF 31 _ rfl B1 rfl _ (aQ qV.out.1 Tryz.underlying31 rfl dR)) ?_;clear HV HBY)
    |(refine⟨trivial, ?_⟩;gi_at_call 97;refine(callsIn_wide.2 (RG.out _)).mono ?_;rintro e X1 ⟨rfl,hd⟩;have HD:=ah hd;clear hd))
   (try simp only [Exit.inBlock,Exit.then])
   refine bodyPost_ret (results_none rfl _ _ _) rfl ?_;exact⟨⟨_,rfl⟩,.inl ⟨[],by rw [xw.out];rfl,tC HA.out HJ.out HD.out⟩⟩
 · obtain⟨i,rfl⟩:=au (show 0<=g by omega)
   have hi:i<x.gs.length:=(by omega);have hpg:fP x (i:Int)=mQ x.gs[i] x.dH (i:Int):=(by unfold fP;rw [mJ hi]);obtain⟨a0,q,A1,e1,A3,e3,rfl,hq,hcell⟩:=hgu i hi;obtain⟨⟨z1,z2⟩,r1,r3⟩:=hcell w0 (aC _ _);have r2:=hch w0 (aC _ _);have hgb:=hb.gs _ (ay hi);have hfew:=jZ (hfa _ (ay hi));obtain⟨tg,htg⟩:=aqx (x.gs[i]);rw [<-htg]at hpg hgb hfew z1 z2 r1 r3;have afk:=Fq (N:=NG) (i:=i) (by omega);rw [afk]at RG;unfold jc at RG;obtain⟨NW,KZ⟩:=aqx (tg.wins.length);obtain⟨ND,RH⟩:=aqx (tg.dG.length);have afl:NW<=20:=(by rw [KZ];exact hfew.1);have afm:ND<=20:=(by rw [RH];exact hfew.2.1);have anS:NC<=40:=(by rw [JM];exact hfc);rw [<-KZ]at z1;rw [<-RH]at z2;have q1:=aG w0 _ z1;rw [hn0.symm]at r1 r2 r3 q1;have Ak:Hid (∀Y:World,(∀k,k<n0->Y.heap[k]?=w0.heap[k]?)->(Y.cell? ⟨q.block,q.off+75,none⟩=some (.slice A1 NW e1)/\ Y.cell? ⟨q.block,q.off+76,none⟩=some (.slice A3 ND e3))/\ bI 4 bG Y n0 A1 tg.wins/\ bI 3 iC Y n0 A3 tg.dG/\ bI 8 kJ Y n0 A2 x.dH):=ah fun Y hY=>
    have hc:∀p:Addr,p.block<n0->Y.cell? p=w0.cell? p:=fun p hp=>by unfold World.cell?;rw [hY _ hp]
    ⟨⟨(hc ⟨q.block,q.off+75,none⟩ q1).trans z1,(hc ⟨q.block,q.off+76,none⟩ q1).trans z2⟩,r1.same hc,r3.same hc,r2.same hc⟩
   have HWB:=ah hgb.wins;have La:=ah hgb.dG;have JL:=ah hb.dH;have RI:=ah KZ;have Z4:=ah RH;have HNC:=ah JM;have xw:=ah hpg;have HQ:=ah hq;have hiN:(i:Int)< (NG:Int):=(by omega);have afo:i<NG:=(by omega);have Lc:Hid (W.heap.size<=V.heap.size):=ah kV.size;clear hx hb hf hbw h1 h2 hN hW hA hAx hY h0 hfg hfc hfa hch hgu hBy hV bV kV yV aV gV lV jV hgl hno hpg hcell z1 z2 r1 r2 r3 q1 hgb hfew htg afk KZ RH JM xu hi hq;refine callsIn_of_wp_marks Tryz.func130 rfl trivial ?_ rfl;simp only [Tryz.ntmps130,List.size_toArray,List.length_cons,List.length_nil,Nat.reduceAdd,Nat.reduceSub,Array.replicate_succ,Array.replicate_zero,List.push_toArray,List.append_toArray,List.nil_append,List.cons_append]
   gi_upto_region 2 with(first
    |((with_reducible show wpListIn _ _ _ _ _ (Oper.mk _ (.load 31 _) _ _ _ _::_) _ _);rw [<-HV.out, <-HBY.out];refine jG lG rfl (by intro c e;cases e) (bF 31 _ rfl B1 rfl _ (aQ qV.out.1 Tryz.underlying31 rfl dR)) ?_;clear HV HBY)
    |(refine⟨trivial, ?_⟩;gi_at_call 97;refine(callsIn_wide.2 (RG.out _)).mono ?_;rintro e X1 ⟨rfl,hd⟩;have HD:=ah hd;clear hd))
   have KX:Hid (KN n0 W.heap.size W X1):=ah (HKV.out.trans (KN.of_below HD.out (by have:=Lc.out;omega)));have HJ1:Hid (J [] X1):=ah (tC HA.out HJ.out HD.out);have HL1:Hid (∀k,k<n0->X1.heap[k]?=w0.heap[k]?):=(ah fun k hk=>(HD.out.block k (by have:=Lc.out;omega)).trans (HLV.out k hk));have HA1:Hid (aU X1 B1 31 3 (eX x.ver (.slice (some a0) NG d) (.slice A2 NC d2))/\ fB X1 B2 3 #[.int .i64 (i:Int)]/\ fB X1 By 183 #[.func (.yield lp) #[] #[]]):=ah ⟨qV.out.1.under HD.out,qV.out.2.1.under HD.out,qV.out.2.2.under HD.out⟩;have DV:Hid (∀Y:World,KN n0 W.heap.size X1 Y->(Y.cell? ⟨B1,1,none⟩=some (.slice (some a0) NG d)/\ Y.cell? ⟨B1,2,none⟩=some (.slice A2 NC d2)/\ Y.cell? ⟨B2,0,none⟩=some (.int .i64 (i:Int))/\ Y.cell? ⟨By,0,none⟩=some (.func (.yield lp) #[] #[]))/\
      (Y.cell? ⟨q.block,q.off+75,none⟩=some (.slice A1 NW e1)/\ Y.cell? ⟨q.block,q.off+76,none⟩=some (.slice A3 ND e3))/\ bI 4 bG Y n0 A1 tg.wins/\ bI 3 iC Y n0 A3 tg.dG/\ bI 8 kJ Y n0 A2 x.dH):=ah fun Y hY=>
    have hl:=(Ak.out Y fun k hk=>(hY.low k hk).trans (HL1.out k hk));have ha:=hY.arr HA1.out.1 (by decide)
    ⟨⟨ha.cell (i:=1) (by decide),ha.cell (i:=2) (by decide),(hY.blk HA1.out.2.1 (by decide)).cellAt 0 rfl,(hY.blk HA1.out.2.2 (by decide)).cellAt 0 rfl⟩,hl⟩
   clear HKV HJ HLV qV Ak HL1 HA1 RG b2;obtain⟨⟨f1,f2,f3,f4⟩,⟨f5,f6⟩,-⟩:=DV.out X1 (KN.refl _ _ _);have hq:=HQ.out
   gi_wp2
   clear f1 f2 f3 f4 f5 f6
   gi_loopw [20] (fun v wr=>∃ (k:Nat) (pre:List RB),k<=NW/\ v= .int .i64 k/\ Hid (pre.map Subtype.val=(tg.wins.take k).map Ey/\ J pre wr/\ KN n0 W.heap.size X1 wr)) (fun v _=>NW-(intOf v).toNat)
   case atStart=>exact⟨0,[],aB _,rfl,ah ⟨rfl,HJ1.out,KN.refl _ _ _⟩⟩
   case round=>
    obtain⟨k,pre,hk,rfl,hR⟩:=hrel;obtain⟨Z,hZ0⟩:=aqx wr;subst hZ0;by_cases hlt:k<NW
    · have zy:k<tg.wins.length:=by rw [<-RI.out];exact hlt
      obtain⟨⟨-,-,-,f4⟩,-,rw1,rw3,-⟩:=DV.out Z hR.out.2.2;obtain⟨b0,p,ea,hp,-,hcp⟩:=rw1.at zy;obtain⟨y,hy0⟩:=aqx (tg.wins[k]);rw [<-hy0]at hcp;have Uj:Hid (Cj (Ey y).m):=ah (ajX (HWB.out y (by rw [hy0];exact ay zy)));have hnx:(tg.wins.take (k+1)).map Ey=((tg.wins.take k).map Ey)++ [Ey y]:=(by rw [aO zy,List.map_append, <-hy0];rfl);obtain⟨r,hr⟩:=aqx (Z.heap.size);obtain⟨X,hX⟩:=aqx ((Z.alloc (.cells (vec 4 (bG JJ)) 67)).setRow Z.heap.size (vec 4 (bG y)));have bx:Below Z.heap.size Z X:=(by rw [hX];exact bg ((aC _ _).alloc (aj _) _) (aj _) _);have ax:aU X r 67 4 (bG y):=(by rw [hX,hr];exact(aU.new Z _ _ _).row _);have pq:Hid (KN n0 W.heap.size X1 X):=ah (hR.out.2.2.trans (KN.of_below bx (aA (aA hnW KX.out.size) hR.out.2.2.size)));have HJX:=ah (tC HA.out hR.out.2.1 bx);obtain⟨⟨-,-,-,g4⟩,-⟩:=DV.out X pq.out;have HPX:Hid ((pre++ [(⟨Ey y,Uj.out⟩:RB)]).map Subtype.val=(tg.wins.take (k+1)).map Ey):=ah (by rw [List.map_append,hR.out.1,hnx];rfl);have Uk:Hid ((pre++ [(⟨Ey y,Uj.out⟩:RB)]).map Subtype.val<+:fP x (i:Int)):=ah (by rw [HPX.out,xw.out];exact afh (k+1));obtain⟨fn,tmps,assign,body,hy,hRR⟩:=HY.out pre ⟨Ey y,Uj.out⟩ X HJX.out (RF Uk.out yH.out);replace hy:(Instr.yield lp #[.agg (vec 6 (tq (Ey y)))]).run Tryz.prog X= .ok (.round lp fn tmps assign body) X:=hy;have HYR:=ah hRR;have HX:=ah hX;have HRR:=ah hr;have gI:=ah hcp;have c0:=ax.cell (i:=0) (by decide);have c1:=ax.cell (i:=1) (by decide);have c2:=ax.cell (i:=2) (by decide);have c3:=ax.cell (i:=3) (by decide);rw [show bG y 0= .int .u64 y.fZ from rfl]at c0;rw [show bG y 1= .int .u64 y.pa from rfl]at c1;rw [show bG y 2= .int .u64 y.size from rfl]at c2;rw [show bG y 3= .int .i64 y.perm from rfl]at c3;have hki:(k:Int)< (NW:Int):=(by omega);subst ea;clear hcp hr hX bx ax hy0 zy hR hRR hnx f4 rw1 rw3
      gi_wp2_with (first
        |((with_reducible show wpListIn _ _ _ _ _ (Oper.mk _ (.load 67 _) _ _ _ _::_) _ _);refine jG lG rfl (by intro c e;cases e) (dI 67 _ rfl p rfl _ (aW gI.out Tryz.underlying67 rfl gQ)) ?_)
        |((with_reducible show wpListIn _ _ _ _ _ (Oper.mk _ (.store 67 _ _) _ _ _ _::_) _ _);refine ni rfl 67 _ _ rfl _ rfl _ rfl (aS (aU.new Z _ _ _) (bG y) gQ (mZ _ _)) ?_;rw [<-HX.out, <-HRR.out];clear HX HRR)
        |((with_reducible show wpListIn _ _ _ _ _ (Oper.mk _ (.build 87 _) _ _ _ _::_) _ _);refine jG lG rfl (by intro c e;cases e) (bP 87 _ rfl (vec 5 (kK (Ey y).m)) (by kernel_rfl) _) ?_)
        |((with_reducible show wpListIn _ _ _ _ _ (Oper.mk _ (.build 145 _) _ _ _ _::_) _ _);refine jG lG rfl (by intro c e;cases e) (bP 145 _ rfl (vec 6 (tq (Ey y))) (by kernel_rfl) _) ?_))
      refine HYR.out.mono ?_;rintro e W3 (⟨rfl,hJ3,hk3⟩|⟨rfl,hJx3,-⟩)
      · have HN:=ah (ak hJ3 (pq.out.trans hk3))
        clear hJ3 hk3 hy
        gi_wp2
        go_roundw
        case rel=>exact⟨k+1,_,by omega,by go_num,ah ⟨HPX.out,HN.out.1,HN.out.2⟩⟩
        case measure=>simp [intOf];omega
      · have HN:=ah hJx3
        clear hJx3 hy
        gi_wp2
        (try simp only [Exit.inBlock,Exit.then])
        exact⟨_,results_none rfl _ _ _,⟨_,rfl⟩,.inr ⟨_,Uk.out,HN.out⟩⟩
    · obtain rfl:k=NW:=by omega
      have Ap:Hid (pre.map Subtype.val=tg.wins.map Ey/\ J pre Z/\ KN n0 W.heap.size X1 Z):=ah ⟨by have h:=hR.out.1;rw [RI.out,List.take_length]at h;exact h,hR.out.2⟩;obtain⟨⟨f1,f2,f3,f4⟩,⟨f5,f6⟩,-⟩:=DV.out Z hR.out.2.2;have hq:=HQ.out;clear hR hlt
      gi_wp2
      clear f1 f2 f3 f4 f5 f6
      gi_loopw [45] (fun v wr=>∃ (k:Nat) (pre2:List RB),k<=ND/\ v= .int .i64 k/\ Hid (pre2.map Subtype.val=tg.wins.map Ey++(tg.dG.take k).map KU/\ J pre2 wr/\ KN n0 W.heap.size X1 wr)) (fun v _=>ND-(intOf v).toNat)
      case atStart=>exact⟨0,pre,aB _,rfl,ah ⟨by rw [Ap.out.1];exact(List.append_nil _).symm,Ap.out.2⟩⟩
      case round=>
        obtain⟨k,pre,hk,rfl,hR⟩:=hrel;obtain⟨Z,hZ0⟩:=aqx wr;subst hZ0;by_cases hlt:k<ND
        · have zy:k<tg.dG.length:=by rw [<-Z4.out];exact hlt
          obtain⟨⟨-,-,-,f4⟩,-,rw1,rw3,-⟩:=DV.out Z hR.out.2.2;obtain⟨b0,p,ea,hp,-,hcp⟩:=rw3.at zy;obtain⟨y,hy0⟩:=aqx (tg.dG[k]);rw [<-hy0]at hcp;have Uj:Hid (Cj (KU y).m):=ah (ajY (La.out y (by rw [hy0];exact ay zy)));have hnx:tg.wins.map Ey++(tg.dG.take (k+1)).map KU=(tg.wins.map Ey++(tg.dG.take k).map KU)++ [KU y]:=(by rw [aO zy,List.map_append, <-hy0];rw [<-List.append_assoc];rfl);obtain⟨r,hr⟩:=aqx (Z.heap.size);obtain⟨X,hX⟩:=aqx ((Z.alloc (.cells (vec 3 (iC zDe)) 83)).setRow Z.heap.size (vec 3 (iC y)));have bx:Below Z.heap.size Z X:=(by rw [hX];exact bg ((aC _ _).alloc (aj _) _) (aj _) _);have ax:aU X r 83 3 (iC y):=(by rw [hX,hr];exact(aU.new Z _ _ _).row _);have pq:Hid (KN n0 W.heap.size X1 X):=ah (hR.out.2.2.trans (KN.of_below bx (aA (aA hnW KX.out.size) hR.out.2.2.size)));have HJX:=ah (tC HA.out hR.out.2.1 bx);obtain⟨⟨-,-,-,g4⟩,-⟩:=DV.out X pq.out;have HPX:Hid ((pre++ [(⟨KU y,Uj.out⟩:RB)]).map Subtype.val=tg.wins.map Ey++(tg.dG.take (k+1)).map KU):=ah (by rw [List.map_append,hR.out.1,hnx];rfl);have Uk:Hid ((pre++ [(⟨KU y,Uj.out⟩:RB)]).map Subtype.val<+:fP x (i:Int)):=ah (by rw [HPX.out,xw.out];exact afi (k+1));obtain⟨fn,tmps,assign,body,hy,hRR⟩:=HY.out pre ⟨KU y,Uj.out⟩ X HJX.out (RF Uk.out yH.out);replace hy:(Instr.yield lp #[.agg (vec 6 (tq (KU y)))]).run Tryz.prog X= .ok (.round lp fn tmps assign body) X:=hy;have HYR:=ah hRR;have HX:=ah hX;have HRR:=ah hr;have gI:=ah hcp;have c0:=ax.cell (i:=0) (by decide);have c1:=ax.cell (i:=1) (by decide);have c2:=ax.cell (i:=2) (by decide);rw [show iC y 0= .int .u64 y.fZ from rfl]at c0;rw [show iC y 1= .int .u64 y.pa from rfl]at c1;rw [show iC y 2= .int .u64 y.size from rfl]at c2;have hki:(k:Int)< (ND:Int):=(by omega);subst ea;clear hcp hr hX bx ax hy0 zy hR hRR hnx f4 rw1 rw3
          gi_wp2_with (first
            |((with_reducible show wpListIn _ _ _ _ _ (Oper.mk _ (.load 83 _) _ _ _ _::_) _ _);refine jG lG rfl (by intro c e;cases e) (dI 83 _ rfl p rfl _ (aW gI.out Tryz.underlying83 rfl qG)) ?_)
            |((with_reducible show wpListIn _ _ _ _ _ (Oper.mk _ (.store 83 _ _) _ _ _ _::_) _ _);refine ni rfl 83 _ _ rfl _ rfl _ rfl (aS (aU.new Z _ _ _) (iC y) qG (xC _ _)) ?_;rw [<-HX.out, <-HRR.out];clear HX HRR)
            |((with_reducible show wpListIn _ _ _ _ _ (Oper.mk _ (.build 87 _) _ _ _ _::_) _ _);refine jG lG rfl (by intro c e;cases e) (bP 87 _ rfl (vec 5 (kK (KU y).m)) (by kernel_rfl) _) ?_)
            |((with_reducible show wpListIn _ _ _ _ _ (Oper.mk _ (.build 145 _) _ _ _ _::_) _ _);refine jG lG rfl (by intro c e;cases e) (bP 145 _ rfl (vec 6 (tq (KU y))) (by kernel_rfl) _) ?_))
          refine HYR.out.mono ?_;rintro e W3 (⟨rfl,hJ3,hk3⟩|⟨rfl,hJx3,-⟩)
          · have HN:=ah (ak hJ3 (pq.out.trans hk3))
            clear hJ3 hk3 hy
            gi_wp2
            go_roundw
            case rel=>exact⟨k+1,_,by omega,by go_num,ah ⟨HPX.out,HN.out.1,HN.out.2⟩⟩
            case measure=>simp [intOf];omega
          · have HN:=ah hJx3
            clear hJx3 hy
            gi_wp2
            (try simp only [Exit.inBlock,Exit.then])
            exact⟨_,results_none rfl _ _ _,⟨_,rfl⟩,.inr ⟨_,Uk.out,HN.out⟩⟩
        · obtain rfl:k=ND:=by omega
          have hPD:pre.map Subtype.val=tg.wins.map Ey++tg.dG.map KU:=(by have h:=hR.out.1;rw [Z4.out,List.take_length]at h;exact h);obtain⟨⟨f1,f2,f3,f4⟩,⟨f5,f6⟩,-,-,rw2⟩:=DV.out Z hR.out.2.2;have HZ:Hid (J pre Z/\ KN n0 W.heap.size X1 Z):=ah hR.out.2;have HPD:=ah hPD;have HR2:=ah rw2;clear hR hlt hPD rw2
          gi_wp2_with (refine⟨trivial, ?_⟩;gi_at_call 131;refine(callsIn_wide.2 (WX _ _ _ rfl)).mono ?_;rintro e Y1 ⟨rfl,RJ⟩;have LV:=ah RJ;clear RJ)
          clear f1 f2 f3 f4 f5 f6;have bY:Below Z.heap.size Z Y1:=(by rw [LV.out];exact((aC _ _).alloc (aj _) _).alloc (by simp) _);have h3:fB Y1 Z.heap.size 29 #[.slice A2 x.dH.length d2]:=(by rw [LV.out, <-HNC.out];exact(fB.new _ _ _ rfl).alloc _);have h4:fB Y1 (Z.heap.size+1) 3 #[.int .i64 (i:Int)]:=(by rw [LV.out];exact fB.new _ _ _ (by simp));have hsW:W.heap.size<=Z.heap.size:=aA KX.out.size HZ.out.2.size;have hnZ:n0<=Z.heap.size:=aA hnW hsW;have KY:KN n0 W.heap.size X1 Y1:=HZ.out.2.trans (KN.of_below bY hnZ);have jY:J pre Y1:=tC HA.out HZ.out.1 bY;have hrow:bI 8 kJ Y1 n0 A2 x.dH:=(HR2.out.same fun p hp=>bY.cell (by omega));have hcl:x.dH.length<=1000000:=(by rw [<-HNC.out];omega);have hsY:=bY.size;have Xa:=ah KY;have hpl:pre.length=tg.wins.length+tg.dG.length:=(by have h:=congrArg List.length HPD.out;rw [List.length_map,List.length_append,List.length_map,List.length_map]at h;exact h);have hgl:(fP x (i:Int)).length=tg.wins.length+(tg.dG.length+(x.dH.flatMap (sK (i:Int))).length):=(by rw [xw.out];unfold mQ;rw [List.length_append,List.length_append,List.length_map,List.length_map,List.length_map]);have hNN:=yH.out;clear HJ1 HD LV HZ HR2 bY KY hk hq;refine Cm (n:=n) (n0:=n0) hn (by omega) (gf:=163) (lb:= #[.pointer (some ⟨Z.heap.size,0,none⟩),.pointer (some ⟨Z.heap.size+1,0,none⟩)]) rfl (by intro args W;rfl)
            (WY (n-1) n0 Z.heap.size (Z.heap.size+1) (x.dH.flatMap (sK (i:Int))).length A2 d2 x.dH (i:Int) Y1 hrow (by omega) h3 h4 JL.out (aj _) hcl) (aC _ _)
            65 8 rfl 87 5 (fun z=>kK z.1) (fun _=>rfl) (fun l W'=>J (pre++l.map toE) W'/\ KN n0 W.heap.size Y1 W') (fun cd l W'=>cd= .ret/\ Jx (pre++l.map toE) W')
            (fun s X Y row hs hg hr=>⟨HA.out _ _ _ row hs.1 hg (fun r e=>⟨by have:=(hr r e).1;omega,(hr r e).2⟩),Py (by omega) (aj _) s X Y row hs.2 hg hr⟩)
            (fun cd s X Y row hs hg hr=>⟨hs.1,ou.out _ _ _ row hs.2 hg (fun r e=>⟨by have:=(hr r e).1;omega,(hr r e).2⟩)⟩)
            ⟨by rw [List.map_nil,List.append_nil];exact jY,KN.refl _ _ _⟩ (fun l W' h=>h.2.size) ?assign ?body ?done ?stop
          case assign=>
            intro l z W' K hK;simp only [List.setIfInBounds_toArray,List.set_cons_zero,List.set_cons_succ]at hK⊢;have HK:=ah hK;clear hK
            gi_wp2_with ((with_reducible show wpListIn _ _ _ _ _ (Oper.mk _ (.store 87 _ _) _ _ _ _::_) _ _);refine ni rfl 87 _ _ rfl _ rfl _ rfl (aS (aU.new W' _ _ _) (kK z.1) lN (Aq _ _)) ?_)
            exact HK.out _ (bg ((aC _ _).alloc (aj _) _) (aj _) _) ((aU.new W' _ _ _).row _)
          case body=>
            intro l pre2 z r W' hr hi ha hlen;simp only [List.setIfInBounds_toArray,List.set_cons_zero,List.set_cons_succ];have kW:=Xa.out.trans hi.2;obtain⟨⟨-,-,-,g4⟩,-⟩:=DV.out W' kW;obtain⟨fn,tmps,assign,body,hy,hRR⟩:=HY.out (pre++pre2.map toE) (toE z) W' hi.1 (by rw [List.length_append,List.length_map];omega);replace hy:(Instr.yield lp #[.agg (vec 6 (tq (rkM z.1)))]).run Tryz.prog W'= .ok (.round lp fn tmps assign body) W':=hy;have HYR:=ah hRR;have Z5:=ah ha;have HI2:=ah hi.2;clear hRR ha hi kW hlen hr
            gi_wp2_with (first
              |((with_reducible show wpListIn _ _ _ _ _ (Oper.mk _ (.load 87 _) _ _ _ _::_) _ _);refine jG (Ar _) rfl (by intro c e;cases e) (bF 87 _ rfl r rfl _ (aQ Z5.out Tryz.underlying87 rfl lN)) ?_)
              |((with_reducible show wpListIn _ _ _ _ _ (Oper.mk _ (.build 145 _) _ _ _ _::_) _ _);refine jG (Ar _) rfl (by intro c e;cases e) (bP 145 _ rfl (vec 6 (tq (rkM z.1))) (by kernel_rfl) _) ?_))
            refine⟨fun h=>by simp [Fence.wide]at h, ?_⟩;refine(Xb HYR.out).mono ?_;rintro e W3 (⟨rfl,hJ3,hk3⟩|⟨rfl,hJx3,Xc⟩)
            · have HN:Hid (J (pre++(pre2++ [z]).map toE) W3/\ KN n0 W.heap.size W' W3):=ah ⟨by rw [List.map_append, <-List.append_assoc];exact hJ3,hk3⟩
              clear hJ3 hk3 hy
              gi_wp2
              exact⟨(HN.out.2.up (by omega)).from,HN.out.2.up (by omega),HN.out.1,HI2.out.trans HN.out.2⟩
            · have HN:Hid (Jx (pre++(pre2++ [z]).map toE) W3/\ KeepsFrom W.heap.size W' W3):=ah ⟨by rw [List.map_append, <-List.append_assoc];exact hJx3,Xc⟩
              clear hJx3 Xc hy
              gi_wp2
              exact⟨oz HN.out.2 (by omega),rfl,HN.out.1⟩
          case done=>
            intro D ys W' hD hS hi hdef;have hj:=(HA.out).putObj (.deferred none) hi.1 (by omega) hdef rfl;have HJD:=ah hj;have HS:=ah hS;clear hj hS hi
            gi_wp2
            refine⟨by simp,.inl ⟨_,_,rfl,run_takeDeferred hdef, ?_⟩⟩;refine⟨_,results_none rfl _ _ _,⟨_,rfl⟩,.inl ⟨pre++ys.map toE, ?_,HJD.out⟩⟩;rw [List.map_append,RD,HS.out,HPD.out,xw.out,List.append_assoc]
            rfl
          case stop=>
            intro D cd pre2 W' hD hSp hi hdef;obtain⟨rfl,hjx⟩:=hi;have hj:=(ou.out).putObj (.deferred none) hjx (by omega) hdef rfl;have HJD:=ah hj;have HS:=ah hSp;clear hj hSp hjx
            gi_wp2
            refine⟨by simp,.inl ⟨_,_,rfl,run_takeDeferred hdef, ?_⟩⟩;refine⟨_,results_none rfl _ _ _,⟨_,rfl⟩,.inr ⟨pre++pre2.map toE, ?_,HJD.out⟩⟩;rw [List.map_append,RD,HPD.out,xw.out];exact afj HS.out
open Go.RowKit
attribute [local go_sem ↓ high] gZ
attribute [local go_sem ↓ high] zC Fp
theorem RN:(Tryz.prog.info? 145).map (fun i=>(i.zero,i.size,i.bytes))=some (some (.agg (vec 6 (tq zRk))),6,48):=by kernel_rfl
theorem Xd(x:Rk)(w:World):(Instr.buildSlice 151 1 #[(0,.agg (vec 6 (tq x)))]).run Tryz.prog w= .ok (.slice (some ⟨w.heap.size,0,none⟩) 1 1) (w.alloc (.cells (vec 6 (tq x)) 145)):=by
 obtain⟨i0,hi,hz0,hz1,hz2⟩:=info_parts RN;refine run_buildSlice (P:=Tryz.prog) w 151 145 1 _ _ i0 (.agg (vec 6 (tq zRk))) Tryz.underlying151 hi hz0 (by rw [hz1];decide) (by rw [hz1];decide) ?_;rw [hz1]
 kernel_rfl
structure mg(Bl:Nat)(v:Value)(w w':World):Prop where
 os:w'.os=w.os
 tape:w'.tape=w.tape
 output:w'.output=w.output
 size:w.heap.size<=w'.heap.size
 block:∀k,k<w.heap.size->k≠Bl->some k≠v.ownBlock->w'.heap[k]?=w.heap[k]?
theorem mg.of_below{Bl:Nat}{v:Value}{w w':World}(h:Below w.heap.size w w'):mg Bl v w w':=⟨h.os,h.tape,h.output,h.size,fun k hk _ _=>h.block k hk⟩
theorem mg.below{Bl base:Nat}{v:Value}{l:List Rk}{w w':World}(h:mg Bl v w w')(ho:Au w base v l){n:Nat}(h1:n<=Bl)(h2:n<=base)(h3:n<=w.heap.size):Below n w w':=
 ⟨h.os,h.tape,h.output,h.size,fun k hk=>h.block k (by omega) (by omega) fun e=>by have:=(ho.bnd e.symm).1;omega⟩
theorem mg.kn{Bl base n0 B:Nat}{v u:Value}{l:List Rk}{w w':World}(h:mg Bl v w w')(ho:Au w base v l)(hb:fB w Bl 151 #[u])(h1:n0<=Bl)(h2:n0<=base)(h3:n0<=w.heap.size):KN n0 B w w':=by
 have hown:∀k,some k=v.ownBlock->∃cs fr,w.heap[k]?=some (.cells cs 145 fr):=fun k hk=>by
   rcases ho.2 with⟨rfl,_⟩|⟨g,cap,cur,rfl,_,hg,_⟩
   · simp [Value.ownBlock]at hk
   · simp [Value.ownBlock]at hk
     subst hk;exact⟨_,_,hg⟩
 refine⟨h.size,(h.below ho h1 h2 h3).block,fun k cs t fr hk ht=> ?_,fun k o _ hk hc=> ?_⟩
 · refine(h.block k (Array.getElem?_eq_some_iff.1 hk).1 (fun e=> ?_) fun e=> ?_).trans hk
   · subst e
     rw [show w.heap[k]?=_ from hb]at hk;injection hk with hk
     injection hk with _ hk _
     exact ht (by rw [<-hk];unfold Ah;decide)
   · obtain⟨c2,f2,hc⟩:=hown k e
     rw [hc]at hk;injection hk with hk
     injection hk with _ hk _
     exact ht (by rw [<-hk];unfold Ah;decide)
 · refine(h.block k (Array.getElem?_eq_some_iff.1 hk).1 (fun e=> ?_) fun e=> ?_).trans hk
   · subst e
     rw [show w.heap[k]?=_ from hb]at hk;cases hk
     cases hc
   · obtain⟨c2,f2,hcc⟩:=hown k e
     rw [hcc]at hk;cases hk
     cases hc
theorem put_any(x:Rk)(hx:Cj x.m)(Bl base:Nat)(v:Value)(l:List Rk)(w:World)(hbl:fB w Bl 151 #[v])(hown:Au w base v l)(hbw:base<=w.heap.size)(hlen:l.length<=100000)(hne:Bl<base):
   Calls Tryz.prog 134 #[.agg (vec 6 (tq x)),.pointer (some ⟨Bl,0,none⟩)] w fun e w'=>e= .returned (.bool (JO x.m))/\ mg Bl v w w'/\ ∃v',fB w' Bl 151 #[v']/\ Au w' base v' (if JO x.m=true then l++ [x]else l):=by
 obtain⟨A,c,rfl,hlc,-,hbk⟩:=hown.form;obtain⟨g,hg⟩:=aqx (w.heap.size);obtain⟨V,hV⟩:=aqx (w.alloc (.cells (vec 6 (tq x)) 145));have k1:aU V g 145 6 (tq x):=(by rw [hV,hg];exact aU.new w _ _ _);have hB:Below w.heap.size w V:=(by rw [hV];exact(aC _ _).alloc (aj _) _);have HV:=ah hV;have HG:=ah hg;have HB:=ah hB;have HK:=ah k1;have HBL:=ah hbl;have HO:=ah hown;have HM:Hid (∀Y,Below V.heap.size V Y->∀i,i<5->Y.cell? ((⟨g,0,none⟩:Addr).add i)=some (kK x.m i)):=ah fun Y hY i hi=>by
   rw [lF,Nat.zero_add,(k1.under hY).cell (by omega)];rcases(by omega:i=0∨i=1∨i=2∨i=3∨i=4)with rfl|rfl|rfl|rfl|rfl<;>rfl
 have HSE:=ah (fun W=>Fv x.m hx W);have HPH:=ah (fun W=>Aw x.m hx W);have Xe:=ah (fun W=>ab1 (lC x.m) (Az hx) W);have HGP:=ah (fun W=>ab1 (paS x.m) (Xf hx) W);have Ld:Hid (JO x.m=(good (lC x.m)&&good (paS x.m))):=ah rfl;obtain⟨si,hsi⟩:=aqx (lC x.m);obtain⟨sp,hsp⟩:=aqx (paS x.m);rw [<-hsi]at HSE Xe Ld;rw [<-hsp]at HPH HGP Ld;obtain⟨gi,hgi⟩:=aqx (good si);obtain⟨gp,hgp⟩:=aqx (good sp);rw [<-hgi]at Xe Ld;rw [<-hgp]at HGP Ld;obtain⟨r,hr⟩:=aqx (JO x.m);rw [<-hr]at Ld⊢;unfold jc at Xe HGP;clear hV hg k1 hB hbl hown hx hsi hsp hgi hgp hr;have m1:=HM.out V (aC _ _);cases gi
 · obtain rfl:r=false:=Ld.out
   go_enter Tryz.func134,Tryz.ntmps134;go_upto_region 1 with fail
   rw [<-HV.out, <-HG.out];clear HV HG;go_wp2_with(first
     |((with_reducible refine aqz 5 (.load 87 _) ?_);refine bC rfl 87 _ rfl ⟨g,0,none⟩ rfl _ (aW m1 Tryz.underlying87 rfl lN) ?_)
     |(go_at_call 135;refine(HSE.out _).mono ?_;rintro e w1 ⟨rfl,hd⟩;have HD1:=ah hd;clear hd)
     |(go_at_call 106;refine(Xe.out _).mono ?_;rintro e w2 ⟨rfl,hd⟩;have HD2:=ah (HD1.out.trans (hd.mono HD1.out.size));clear hd Xe))
   go_ret;have hb:=HB.out.trans (HD2.out.mono HB.out.size);exact⟨rfl,mg.of_below hb,_,HBL.out.under hb,HO.out.on hb (aj _)⟩
 · cases gp
   · obtain rfl:r=false:=Ld.out
     go_enter Tryz.func134,Tryz.ntmps134;go_upto_region 1 with fail
     rw [<-HV.out, <-HG.out];clear HV HG;go_wp2_with(first
      |((with_reducible refine aqz 5 (.load 87 _) ?_);refine bC rfl 87 _ rfl ⟨g,0,none⟩ rfl _ (aW m1 Tryz.underlying87 rfl lN) ?_)
      |((with_reducible refine aqz 11 (.load 87 _) ?_);refine kN (by kernel_rfl) (dI 87 _ rfl ⟨g,0,none⟩ rfl _ (aW (HM.out _ HD2.out) Tryz.underlying87 rfl lN)) ?_)
      |(go_at_call 135;refine(HSE.out _).mono ?_;rintro e w1 ⟨rfl,hd⟩;have HD1:=ah hd;clear hd)
      |(go_at_call 94;refine(HPH.out _).mono ?_;rintro e w3 ⟨rfl,hd⟩;have HD3:=ah (HD2.out.trans (hd.mono HD2.out.size));clear hd)
      |(go_at_call 106;refine(Xe.out _).mono ?_;rintro e w2 ⟨rfl,hd⟩;have HD2:=ah (HD1.out.trans (hd.mono HD1.out.size));clear hd Xe)
      |(go_at_call 106;refine(HGP.out _).mono ?_;rintro e w4 ⟨rfl,hd⟩;have HD4:=ah (HD3.out.trans (hd.mono HD3.out.size));clear hd))
     go_ret;have hb:=HB.out.trans (HD4.out.mono HB.out.size);exact⟨rfl,mg.of_below hb,_,HBL.out.under hb,HO.out.on hb (aj _)⟩
   · obtain rfl:r=true:=Ld.out
     go_enter Tryz.func134,Tryz.ntmps134;go_upto_region 1 with fail
     rw [<-HV.out, <-HG.out];clear HV HG;go_upto_region 3 with(first
      |((with_reducible refine aqz 5 (.load 87 _) ?_);refine bC rfl 87 _ rfl ⟨g,0,none⟩ rfl _ (aW m1 Tryz.underlying87 rfl lN) ?_)
      |((with_reducible refine aqz 11 (.load 87 _) ?_);refine kN (by kernel_rfl) (dI 87 _ rfl ⟨g,0,none⟩ rfl _ (aW (HM.out _ HD2.out) Tryz.underlying87 rfl lN)) ?_)
      |(go_at_call 135;refine(HSE.out _).mono ?_;rintro e w1 ⟨rfl,hd⟩;have HD1:=ah hd;clear hd)
      |(go_at_call 94;refine(HPH.out _).mono ?_;rintro e w3 ⟨rfl,hd⟩;have HD3:=ah (HD2.out.trans (hd.mono HD2.out.size));clear hd)
      |(go_at_call 106;refine(Xe.out _).mono ?_;rintro e w2 ⟨rfl,hd⟩;have HD2:=ah (HD1.out.trans (hd.mono HD1.out.size));clear hd Xe)
      |(go_at_call 106;refine(HGP.out _).mono ?_;rintro e w4 ⟨rfl,hd⟩;have HD4:=ah (HD3.out.trans (hd.mono HD3.out.size));clear hd))
     have hb:=HB.out.trans (HD4.out.mono HB.out.size);have ho:=HO.out.on hb (aj _);have hbl:=HBL.out.under hb;have hxx:=HK.out.under HD4.out;obtain⟨B4,e4,w5,hrun,DW,hb4,hs4,hk4,hn4⟩:=CB (P:=Tryz.prog) (enc:=tq) Tryz.underlying151 RN (iR _ _) (by decide) x (fun i hi=>EH x 6 i hi) ho (aA hbw hb.size) (by omega) (by decide) 151;have hbs:=Xd x w4;have c0:=hbl.cellAt 0 rfl;have Un:fB w5 Bl 151 #[.slice A l.length c]:=(hk4 Bl hbl.lt (fun e=>by have:=(hbk Bl e.symm).1;omega)).trans hbl;have q0:=Un.cellAt 0 rfl;have q1:w5.frozen? ⟨Bl,0,none⟩=false:=(by unfold fB at Un;simp [World.frozen?,Un]);have bT:Hid (mg Bl (.slice A l.length c) w (w5.setCell ⟨Bl,0,none⟩ (.slice B4 (l.length+1) e4))/\ fB (w5.setCell ⟨Bl,0,none⟩ (.slice B4 (l.length+1) e4)) Bl 151 #[.slice B4 (l.length+1) e4]/\ Au (w5.setCell ⟨Bl,0,none⟩ (.slice B4 (l.length+1) e4)) base (.slice B4 (l.length+1) e4) (l++ [x])):=ah (by
      refine⟨⟨hb4.os.trans hb.os,hb4.tape.trans hb.tape,hb4.output.trans hb.output,aA hb.size (by simpa using hs4),fun k hk h1 h2=> ?_⟩, ?_, ?_⟩
      · rw [Below.heap_setCell w5 ⟨Bl,0,none⟩ _ k (by first|exact h1|exact fun e=>h1 e.symm),hk4 k (aN hk hb.size) h2,hb.block k hk]
      · unfold fB at Un⊢
        simp [World.setCell,Array.getElem?_modify,Un]
      · refine DW.grown (o:=some Bl) (fun k _ h2=>Below.heap_setCell w5 ⟨Bl,0,none⟩ _ k fun e=>h2 (by simp only at e;rw [e])) ?_
        rcases hn4 with h|h
        · rw [h]
          refine .inr fun e=> ?_;have:=(hbk Bl e).1;omega
        · rw [h]
          refine .inr fun e=> ?_;have:=Option.some.inj e;have:=hb.size
          omega)
     have HXX:=ah hxx;clear hb ho hbl hxx DW hb4 hs4 hk4 hn4 Un;go_wp2_with(first
      |((with_reducible refine aqy (.load 145 _) ?_);refine bM rfl 145 _ rfl g rfl _ (aQ HXX.out Tryz.underlying145 rfl zF) ?_)
      |((with_reducible refine aqy (.buildSlice _ _ _) ?_);refine uP rfl _ rfl (.agg (vec 6 (tq x))) rfl hbs ?_))
     go_ret;exact⟨rfl,bT.out.1,_,bT.out.2.1,bT.out.2.2⟩
open Go.RowKit Go.Maps
attribute [local go_sem ↓ high] gZ
attribute [local go_sem ↓ high] jo
def Xg(l:List Sp)(w:World)(e:Ending)(w':World):Prop:=∃i j:Nat,e= .returned (.tuple #[.int .i64 i,.int .i64 j,.bool (iD l)])/\ Below w.heap.size w w'
def CG:Prop:=∀ (A:Option Addr) (cap:Nat) (l:List Sp) (w:World),l.length<=100000->l.length<=cap->cap<=maxLen->(∀x∈l,fit x)->bI 2 bQ w w.heap.size A l->Calls Tryz.prog 92 #[.slice A l.length cap] w (Xg l w)
theorem Xh{α:Type}{n:Nat}{enc:α->Nat->Value}{w:World}{B:Nat}{a:Addr}{l:List α}(hn:0<n)(h:bI n enc w B (some a) l):∀j u,(cellsE n enc l)[j]?=some u->w.cell? (a.add j)=some u:=by
 intro j u hu;have hj:j<l.length*n:=(by have:=(List.getElem?_eq_some_iff.1 hu).1;rwa [jw]at this);have hl:l≠ []:=fun e=>by rw [e]at hj;simp at hj
 obtain⟨a',e,_,hc⟩:=h hl;injection e with e
 subst e;have hq:j/n<l.length:=(Nat.div_lt_iff_lt_mul hn).2 hj;have hr:j% n<n:=Nat.mod_lt _ hn;have hd:j/n*n+j% n=j:=(by rw [Nat.mul_comm];exact Nat.div_add_mod j n);have h1:=hc (j/n) hq (j% n) hr;have h2:=nT (enc:=enc) l (j/n) hq (j% n) hr;rw [hd]at h1 h2;rw [h2]at hu;injection hu with hu
 rw [<-hu];exact h1
theorem aaC{w:World}{base cm:Nat}{Am:Option Addr}{mem l:List Sp}(ho:nM w base (.slice Am mem.length cm) mem)(hb:base<=w.heap.size){a:Addr}{B c:Nat}(hr:bI 2 bQ w B (some a) l)(hlen:mem.length+l.length<=100000):
  ∃A' d w',(uZ #[40,40] 40 #[.slice Am mem.length cm,.slice (some a) l.length c]).run Tryz.prog w= .ok (.slice A' (mem.length+l.length) d) w'/\ nM w' base (.slice A' (mem.length+l.length) d) (mem++l)/\ w.grownBy w' (Value.slice Am mem.length cm).ownBlock/\ (mem.length+l.length<=d/\ d<=maxLen):=by
 obtain⟨i0,hi,hz0,hz1,hz2⟩:=info_parts qH;obtain⟨v',w',hrun,h2,h3,-,-⟩:=run_append_own_at (P:=Tryz.prog) w base 40 40 24 i0 (.agg (vec 2 (bQ (0,0)))) 2 16 Tryz.underlying40 hi hz0 hz1 hz2 (iR _ _) (by decide) _ _ (cellsE 2 bQ mem) ho a l.length c (cellsE 2 bQ l) (jw _) (Xh (by decide) hr) (ET (fun x i hi=>kP x 2 i hi) l) (by unfold maxLen;omega) (by omega) hb;have ho2:nM w' base v' (mem++l):=by
  unfold nM gW;rw [oJ,List.length_append];exact h2
 have hcap:∃A' d,v'= .slice A' (mem.length+l.length) d/\ mem.length+l.length<=d/\ d<=maxLen:=by
  rcases h2.2 with⟨rfl,h0⟩|⟨g,cap,cur,rfl,_,_,h5,h6,_⟩
  · exact⟨none,0,by rw [h0],by omega,by decide⟩
  · exact⟨_,cap,rfl,h5,h6⟩
 obtain⟨A',d,rfl,hc1,hc2⟩:=hcap;exact⟨A',d,w',hrun,ho2,h3,hc1,hc2⟩
theorem acJ{w:World}{p:Nat}{t:TypeId}{b:Bd}{wh:Int}{m1 m2 m3 m4:Nat}{mv mv':Value}(h:aU w p t 13 (kE b wh m1 m2 m3 m4 mv)):aU (w.setCell ⟨p,12,none⟩ mv') p t 13 (kE b wh m1 m2 m3 m4 mv'):=by
 refine(h.set 12 mv').congr fun i hi=> ?_;unfold upd kE;by_cases h12:i=12
 · subst h12;rfl
 · rw [if_neg h12]
   by_cases h7:i<7
   · rw [if_pos h7,if_pos h7]
   · rcases(by omega:i=7∨i=8∨i=9∨i=10∨i=11)with rfl|rfl|rfl|rfl|rfl<;>rfl
theorem gW.Xi{α:Type}{t:TypeId}{n:Nat}{enc:α->Nat->Value}{w:World}{base:Nat}{v:Value}{l:List α}(h:gW t n enc w base v l){p:Addr}(hp:p.block<base)(u:Value):gW t n enc (w.setCell p u) base v l:=by
 refine⟨h.1, ?_⟩;rcases h.2 with h2|⟨k,cap,cur,hv,hk,hh,r⟩
 · exact Or.inl h2
 · exact Or.inr ⟨k,cap,cur,hv,hk,(Below.heap_setCell w p u k (by omega)).trans hh,r⟩
def aaD(p:Nat)(b:Bd)(wh:Int)(m1 m2 m3 m4 base:Nat)(mem l:List Sp)(mv:Value)(w:World)(e:Ending)(w':World):Prop:=e= .returned (.bool (!iD (mem++l)))/\ (∃B d,aU w' p 98 13 (kE b wh m1 m2 m3 m4 (.slice B (mem++l).length d))/\ nM w' base (.slice B (mem++l).length d) (mem++l))/\ mg p mv w w'
theorem mg.LW{Bl:Nat}{v:Value}{a b c:World}(h:mg Bl v a b)(k:Below b.heap.size b c):mg Bl v a c:=⟨k.os.trans h.os,k.tape.trans h.tape,k.output.trans h.output,aA h.size k.size,fun g hg h1 h2=>(k.block g (aN hg h.size)).trans (h.block g hg h1 h2)⟩
theorem mg.LX{Bl:Nat}{v:Value}{a b c:World}(h:Below a.heap.size a b)(k:mg Bl v b c):mg Bl v a c:=⟨k.os.trans h.os,k.tape.trans h.tape,k.output.trans h.output,aA h.size k.size,fun g hg h1 h2=>(k.block g (aN hg h.size) h1 h2).trans (h.block g hg)⟩
theorem LY(HF:CG)(p:Nat)(b:Bd)(wh:Int)(m1 m2 m3 m4 base cm c:Nat)(Am A:Option Addr)(mem l:List Sp)(w:World)(h:aU w p 98 13 (kE b wh m1 m2 m3 m4 (.slice Am mem.length cm)))(ho:nM w base (.slice Am mem.length cm) mem)(hpb:p<base)(hb:base<=w.heap.size)
  (hl0:l≠ []) (hrow:bI 2 bQ w w.heap.size A l) (hlen:mem.length+l.length<=100000) (hfm:∀x∈mem++l,fit x):
  Calls Tryz.prog 52 #[.pointer (some ⟨p,0,none⟩),.slice A l.length c] w (aaD p b wh m1 m2 m3 m4 base mem l (.slice Am mem.length cm) w):=by
 obtain⟨a,rfl⟩:∃a,A=some a:=by obtain⟨a,e,-⟩:=hrow hl0;exact⟨a,e⟩
 obtain⟨A',d,w1,hrun,ho1,hg,hd1,hd2⟩:=aaC ho hb (c:=c) hrow hlen;obtain⟨mv,hmv⟩:=aqx (Value.slice Am mem.length cm);obtain⟨N,hN⟩:=aqx (mem.length+l.length);obtain⟨n0,hn0⟩:=aqx (mem.length);obtain⟨n1,hn1⟩:=aqx (l.length);obtain⟨W2,hW2⟩:=aqx (w1.setCell ⟨p,12,none⟩ (.slice A' N d));have hnp:some p≠(Value.slice Am mem.length cm).ownBlock:=fun e=>by
  obtain⟨_,_,_,_,_,hq⟩:=ho.form;have:=(hq p e.symm).1;omega
 have h1:aU w1 p 98 13 (kE b wh m1 m2 m3 m4 (.slice Am mem.length cm)):=h.grown hg hnp;have h2:aU W2 p 98 13 (kE b wh m1 m2 m3 m4 (.slice A' N d)):=(by rw [hW2];exact acJ h1);have ho2:nM W2 base (.slice A' N d) (mem++l):=(by rw [hW2,hN];exact ho1.Xi (p:=⟨p,12,none⟩) hpb _);have hput:mg p mv w W2:=by
  rw [hW2,hmv];refine⟨hg.os,hg.tape,hg.output,by have:=hg.size;simpa using this,fun k hk h1 h2=> ?_⟩;exact(Below.heap_setCell w1 ⟨p,12,none⟩ _ k h1).trans (hg.block k hk h2)
 have hrow2:bI 2 bQ W2 W2.heap.size (A') (mem++l):=by
  obtain⟨B,c2,e,_,hr,_⟩:=ho2.form;injection e with e1 e2 e3
  subst e1;exact hr
 have HC:=ah (HF A' d (mem++l) W2 (by rw [List.length_append];omega) (by rw [List.length_append];omega) hd2 hfm hrow2);rw [List.length_append, <-hN]at HC;obtain⟨z,hz⟩:=aqx (iD (mem++l));have HP:Hid (∀e w',(e= .returned (.bool (!z))/\ Below W2.heap.size W2 w')->aaD p b wh m1 m2 m3 m4 base mem l (.slice Am mem.length cm) w e w'):=ah fun e w' ⟨he,hB⟩=>
  ⟨by rw [he,hz],⟨A',d,by rw [List.length_append, <-hN];exact h2.under hB,by rw [List.length_append, <-hN];exact ho2.on hB (aj _)⟩,by rw [<-hmv];exact hput.LW hB⟩
 unfold Xg at HC;rw [<-hz]at HC;have c12:w.cell? ⟨p,12,none⟩=some (.slice Am n0 cm):=(by rw [hn0];exact h.cell (i:=12) (by decide));have f12:w1.frozen? ⟨p,12,none⟩=false:=h1.frozen 12;have d12:w1.cell? ⟨p,12,none⟩=some (.slice Am n0 cm):=(by rw [hn0];exact h1.cell (i:=12) (by decide));have e12:W2.cell? ⟨p,12,none⟩=some (.slice A' N d):=h2.cell (i:=12) (by decide);have HW2:=ah hW2;refine Calls.mono ?_ fun e w' hh=>HP.out e w' hh;rw [<-hN, <-hn0, <-hn1]at hrun;rw [<-hn1];clear HP h ho hpb hb hl0 hrow hlen hfm ho1 hg hd1 hd2 hmv hN hnp h1 h2 ho2 hput hrow2 hW2 hz hn0 hn1;go_enter Tryz.func52,Tryz.ntmps52;go_upto_region 2 with fail
 rw [<-HW2.out];clear HW2 c12 f12 d12 hrun;go_wp2_with(go_at_call 92;refine HC.out.mono ?_;rintro e w3 ⟨i,j,rfl,hd⟩;have HD:=ah hd;clear hd)
 go_ret;exact⟨rfl,HD.out⟩
def acK(p:Nat)(b:Bd)(wh:Int)(m1 m2 m3 m4 base:Nat)(mem:List Sp)(s:Sp)(mv:Value)(w:World)(e:Ending)(w':World):Prop:=∃r,e= .returned (.bool r)/\ r=(eG s&&(yO b s&& !iD (mem++ [s])))/\ (r=true->∃B d,aU w' p 98 13 (kE b wh m1 m2 m3 m4 (.slice B (mem++ [s]).length d))/\ nM w' base (.slice B (mem++ [s]).length d) (mem++ [s]))/\ mg p mv w w'/\ w'.cell? ⟨p,7,none⟩=some (.int .i64 wh)
theorem L6(HF:CG)(p:Nat)(b:Bd)(wh:Int)(m1 m2 m3 m4 base cm:Nat)(Am:Option Addr)(mem:List Sp)(s:Sp)(hs:fit s)(hr:fit b.r)(hl:fit b.l)(w:World)(h:aU w p 98 13 (kE b wh m1 m2 m3 m4 (.slice Am mem.length cm)))(ho:nM w base (.slice Am mem.length cm) mem)(hpb:p<base)(hb:base<=w.heap.size)
  (hlen:mem.length+1<=100000) (hfm:∀x∈mem++ [s],fit x):
  Calls Tryz.prog 54 #[.pointer (some ⟨p,0,none⟩),.agg (vec 2 (bQ s))] w (acK p b wh m1 m2 m3 m4 base mem s (.slice Am mem.length cm) w):=by
 obtain⟨z1,hz1⟩:=aqx (eG s);obtain⟨z2,hz2⟩:=aqx (yO b s);obtain⟨z3,hz3⟩:=aqx (iD (mem++ [s]));have aaE:Hid (∀A W,bI 2 bQ W W.heap.size A [s]->Calls Tryz.prog 68 #[.slice A 1 1] W (jc z1 W)):=ah fun A W hR=>by
  have:=RP A 1 [s] (by simp) (fun x hx=>by rw [List.mem_singleton.1 hx];exact hs) W hR;rw [show [s].all eG=z1 by rw [hz1];simp]at this;exact this
 have HOURS:Hid (∀W,KB W p b->Calls Tryz.prog 80 #[.pointer (some ⟨p,0,none⟩),.agg (vec 2 (bQ s))] W (jc z2 W)):=ah (by rw [hz2];exact fun W hW=>IV p b s hs hr hl W hW);obtain⟨mv,hmv⟩:=aqx (Value.slice Am mem.length cm);have HOWN:Hid (∀A W,Below w.heap.size w W->bI 2 bQ W W.heap.size A [s]->Calls Tryz.prog 52 #[.pointer (some ⟨p,0,none⟩),.slice A 1 1] W (aaD p b wh m1 m2 m3 m4 base mem [s] mv W)):=ah fun A W hW hR=>by
  rw [hmv];exact LY HF p b wh m1 m2 m3 m4 base cm 1 Am A mem [s] W (h.under hW) (ho.on hW (aj _)) hpb (aA hb hW.size) (by simp) hR hlen hfm
 unfold jc at aaE HOURS;unfold aaD at HOWN;rw [<-hz3]at HOWN;obtain⟨r3,hr3⟩:=aqx (w.heap.size);obtain⟨V,hV⟩:=aqx (w.alloc (.cells (vec 2 (bQ s)) 24));have hbV:Below w.heap.size w V:=(by rw [hV];exact Below.aY w _);have HA:Hid (∀Y,Below V.heap.size V Y->aU Y r3 24 2 (bQ s)):=ah (by rw [hV,hr3];exact fun Y hY=>(aU.new _ _ _ _).under hY);have HK:Hid (KB V p b):=ah ((KB.of h).under hbV);have HB:=ah hbV;have yP:Hid (∀ (r:Bool) w',r=(z1&&(z2&& !z3))->(r=true->∃B d,aU w' p 98 13 (kE b wh m1 m2 m3 m4 (.slice B (mem++ [s]).length d))/\ nM w' base (.slice B (mem++ [s]).length d) (mem++ [s]))->mg p mv w w'->w'.cell? ⟨p,7,none⟩=some (.int .i64 wh)->acK p b wh m1 m2 m3 m4 base mem s (.slice Am mem.length cm) w (.returned (.bool r)) w'):=(ah fun r w' h1 h2 h3 h4=>⟨r,rfl,by rw [h1,hz1,hz2,hz3],h2,by rw [<-hmv];exact h3,h4⟩);have HC7:Hid (∀Y,Below w.heap.size w Y->Y.cell? ⟨p,7,none⟩=some (.int .i64 wh)):=(ah fun Y hY=>(h.under hY).cell (i:=7) (by decide));have HV:=ah hV;have HR3:=ah hr3;obtain⟨Q,hQ⟩:=aqx (acK p b wh m1 m2 m3 m4 base mem s (.slice Am mem.length cm) w);rw [<-hQ]at yP⊢;clear hz1 hz2 hz3 hs hr hl h ho hpb hb hlen hfm hmv hbV hV hr3 hQ;go_enter Tryz.func54,Tryz.ntmps54;go_upto_region 1 with fail
 rw [<-HV.out, <-HR3.out];clear HV HR3;cases z1
 case false=>
  go_wp2_with(first
   |((with_reducible refine aqy (.load 24 _) ?_);refine bM rfl 24 _ rfl r3 rfl _ (aQ (HA.out _ (aC _ _)) Tryz.underlying24 rfl bZ) ?_)
   |((with_reducible refine aqy (.buildSlice _ _ _) ?_);refine EI (by kernel_rfl) _ rfl (.agg (vec 2 (bQ s))) rfl (oV s _) ?_)
   |(go_at_call 68;refine(aaE.out _ _ (xH s _)).mono ?_;rintro e w1 ⟨rfl,hd⟩;have HD:=ah ((Below.aY V _).trans (hd.mono (by simp)));clear hd))
  exact yP.out false _ rfl (fun h=>by cases h) (mg.of_below (HB.out.trans (HD.out.mono HB.out.size))) (HC7.out _ (HB.out.trans (HD.out.mono HB.out.size)))
 case true=>
  cases z2
  case false=>
   go_wp2_with(first
    |((with_reducible refine aqz 5 (.load 24 _) ?_);refine bM rfl 24 _ rfl r3 rfl _ (aQ (HA.out _ (aC _ _)) Tryz.underlying24 rfl bZ) ?_)
    |((with_reducible refine aqy (.buildSlice _ _ _) ?_);refine EI (by kernel_rfl) _ rfl (.agg (vec 2 (bQ s))) rfl (oV s _) ?_)
    |(go_at_call 68;refine(aaE.out _ _ (xH s _)).mono ?_;rintro e w1 ⟨rfl,hd⟩;have HD:=ah ((Below.aY V _).trans (hd.mono (by simp)));clear hd)
    |((with_reducible refine aqz 10 (.load 24 _) ?_);refine kN (by kernel_rfl) (bF 24 _ rfl r3 rfl _ (aQ (HA.out _ HD.out) Tryz.underlying24 rfl bZ)) ?_)
    |(go_at_call 80;refine(HOURS.out _ (HK.out.under HD.out)).mono ?_;rintro e w2 ⟨rfl,hd⟩;have HD2:=ah (HD.out.trans (hd.mono HD.out.size));clear hd))
   exact yP.out false _ rfl (fun h=>by cases h) (mg.of_below (HB.out.trans (HD2.out.mono HB.out.size))) (HC7.out _ (HB.out.trans (HD2.out.mono HB.out.size)))
  case true=>
   go_wp2_with(first
    |((with_reducible refine aqz 5 (.load 24 _) ?_);refine bM rfl 24 _ rfl r3 rfl _ (aQ (HA.out _ (aC _ _)) Tryz.underlying24 rfl bZ) ?_)
    |((with_reducible refine aqy (.buildSlice _ _ _) ?_);refine EI (by kernel_rfl) _ rfl (.agg (vec 2 (bQ s))) rfl (oV s _) ?_)
    |(go_at_call 68;refine(aaE.out _ _ (xH s _)).mono ?_;rintro e w1 ⟨rfl,hd⟩;have HD:=ah ((Below.aY V _).trans (hd.mono (by simp)));clear hd)
    |((with_reducible refine aqz 10 (.load 24 _) ?_);refine kN (by kernel_rfl) (bF 24 _ rfl r3 rfl _ (aQ (HA.out _ HD.out) Tryz.underlying24 rfl bZ)) ?_)
    |(go_at_call 80;refine(HOURS.out _ (HK.out.under HD.out)).mono ?_;rintro e w2 ⟨rfl,hd⟩;have HD2:=ah (HD.out.trans (hd.mono HD.out.size));clear hd)
    |((with_reducible refine aqz 15 (.load 24 _) ?_);refine kN (by kernel_rfl) (bF 24 _ rfl r3 rfl _ (aQ (HA.out _ HD2.out) Tryz.underlying24 rfl bZ)) ?_)
    |(go_at_call 52;refine(HOWN.out _ _ ((HB.out.trans (HD2.out.mono HB.out.size)).trans ((Below.aY w2 _).mono (HB.out.trans (HD2.out.mono HB.out.size)).size)) (xH s _)).mono ?_;rintro e w3 ⟨rfl,hx,hp⟩;have HX:=ah (ak hx (mg.LX ((HB.out.trans (HD2.out.mono HB.out.size)).trans ((Below.aY w2 _).mono (HB.out.trans (HD2.out.mono HB.out.size)).size)) hp));clear hx hp))
   exact yP.out _ _ (by simp) (fun _=>HX.out.1) HX.out.2 (by obtain⟨B9,d9,h9,-⟩:=HX.out.1;exact h9.cell (i:=7) (by decide))
end Go.Proofs.YtkaipknkjocfiaaGreat
