import Derived.Deep.QuietTactic
import Derived.BigQuiet
import Derived.Maps.OwnSet
import Derived.Maps.OwnOps
import Derived.StringKeys
import Derived.Laws.Shifts
import Derived.Laws.BitsAllLaws
import Derived.Test.YtkaipknkjocfiaaGreatZd5
import Derived.Test.YtkaipknkjocfiaaGreatProg
set_option maxRecDepth 100000
set_option maxHeartbeats 64000000
namespace Go.Proofs.YtkaipknkjocfiaaGreat
open Go.RowKit
attribute [local go_sem ↓ high] oU zq sW zu zC jo
theorem rD(l k:List Mp):(l.foldl iy k).length=k.length+l.length:=by rw [(Dw l k).length_eq,List.length_append]
theorem JD{α:Type}(f:α->Mp)(l:List α)(P:List Mp)(k:Nat)(h:k<l.length):((l.take (k+1)).map f).foldl iy P=iy (((l.take k).map f).foldl iy P) (f l[k]):=by
 rw [uX f l k h,List.foldl_append];rfl
theorem QO(gi:Int)(l:List Ch)(P:List Mp)(k:Nat)(h:k<l.length):((l.take (k+1)).flatMap (sK gi)).foldl iy P=(sK gi l[k]).foldl iy (((l.take k).flatMap (sK gi)).foldl iy P):=by
 rw [aO h,List.flatMap_append,List.foldl_append];simp
theorem yw(gi:Int):∀l:List Ch,(l.flatMap (sK gi)).length<=2*l.length
 | []=>by simp
 |c::l=>by
  rw [List.flatMap_cons,List.length_append,List.length_cons];have h:=yw gi l;have h2:=abb gi c;have h3:(sK gi c).length<=2:=(by rw [h2];split<;>split<;>omega);omega
theorem QS(t:Gs)(dH:List Ch)(g:Int):pG (kY t dH g)=(dH.flatMap (sK g)).foldl iy ((t.dG.map Um).foldl iy ((t.wins.map V6).foldl iy [])):=by
 unfold pG kY;rw [List.foldl_append,List.foldl_append]
theorem dZ{z:Int}(h:vJ z):Gx z:=by unfold vJ at h;unfold Gx;omega
theorem SQ{t:Gs}{dH:List Ch}{g:Int}(hw:∀y∈t.wins,KW y)(hd:∀y∈t.dG,W9 y)(hc:∀y∈dH,Ui y):∀y∈pG (kY t dH g),Cj y:=fun y hy=>by
 have hy:=(o8 _).mem_iff.1 hy;unfold kY at hy;rcases List.mem_append.1 hy with h|h
 · obtain⟨z,hz,rfl⟩:=List.mem_map.1 h
   exact⟨dZ (hw z hz).1,dZ (hw z hz).2.1,dZ (hw z hz).2.2.1⟩
 rcases List.mem_append.1 h with h|h
 · obtain⟨z,hz,rfl⟩:=List.mem_map.1 h
   exact⟨dZ (hd z hz).1,dZ (hd z hz).2.1,dZ (hd z hz).2.2⟩
 · obtain⟨z,hz,h⟩:=List.mem_flatMap.1 h
   have hb:=hc z hz;unfold sK at h;rcases List.mem_append.1 h with h|h
   · split at h
     · obtain rfl:=List.mem_singleton.1 h
       exact⟨dZ hb.2.2.1.2.2,dZ hb.1,dZ hb.2.1⟩
     · cases h
   · split at h
     · obtain rfl:=List.mem_singleton.1 h
       exact⟨dZ hb.2.2.2.2.2,dZ hb.1,dZ hb.2.1⟩
     · cases h
def EO(gi:Int)(y:Ch)(P:List Mp):Nat->List Mp
 |0=>P
 |1=>if y.a.bK=gi then iy P (uO y y.a)else P
 |_=>if y.b.bK=gi then iy (if y.a.bK=gi then iy P (uO y y.a)else P) (uO y y.b)else(if y.a.bK=gi then iy P (uO y y.a)else P)
theorem abz(gi:Int)(y:Ch)(P:List Mp):EO gi y P 2=(sK gi y).foldl iy P:=by
 unfold EO sK;by_cases h1:y.a.bK=gi<;>by_cases h2:y.b.bK=gi<;>simp [h1,h2]
theorem TG(gi:Int)(y:Ch)(P:List Mp)(i:Nat):(EO gi y P i).length<=P.length+2:=by
 have hins:∀ (l:List Mp) (x:Mp),(iy l x).length=l.length+1:=(fun l x=>by rw [(Jt l x).length_eq,List.length_cons]);unfold EO
 split
 · omega
 · split
   · rw [hins];omega
   · omega
 · split<;>split<;>(try rw [hins])<;>(try rw [hins])<;>omega
def OB(r:Except Nat (List Mp))(w:World)(e:Ending)(w':World):Prop:=match r with
 | .error n=>e= .returned (.tuple #[.slice none 0 0,.int .i64 (n:Nat)])/\ Below w.heap.size w w'
 | .ok l=>∃v,e= .returned (.tuple #[v,.int .i64 0])/\ qL w' w.heap.size v l/\ Below w.heap.size w w'
theorem Px(a b:En)(w:World):(Instr.index 45 (.agg (vec 6 (yG a b))) (.int .i64 0)).run Tryz.prog w= .ok (.agg (vec 3 (dY a))) w:=by kernel_rfl
theorem indexB(a b:En)(w:World):(Instr.index 45 (.agg (vec 6 (yG a b))) (.int .i64 1)).run Tryz.prog w= .ok (.agg (vec 3 (dY b))) w:=by kernel_rfl
theorem Pv:(Tryz.prog.info? 45).map (·.size)=some 6:=by kernel_rfl
theorem lF(b o i:Nat):((⟨b,o,none⟩:Addr).add i)=⟨b,o+i,none⟩:=by simp [Addr.add]
theorem aev{gi:Int}{y:Ch}(P:List Mp)(h:y.a.bK=gi):EO gi y P 1=iy (EO gi y P 0) (uO y y.a):=by
 show(if y.a.bK=gi then iy P (uO y y.a)else P)=iy P (uO y y.a)
 exact if_pos h
theorem aew{gi:Int}{y:Ch}(P:List Mp)(h:¬y.a.bK=gi):EO gi y P 1=EO gi y P 0:=by
 show(if y.a.bK=gi then iy P (uO y y.a)else P)=P
 exact if_neg h
theorem aex{gi:Int}{y:Ch}(P:List Mp)(h:y.b.bK=gi):EO gi y P 2=iy (EO gi y P 1) (uO y y.b):=by
 show(if y.b.bK=gi then iy (if y.a.bK=gi then iy P (uO y y.a)else P) (uO y y.b)else(if y.a.bK=gi then iy P (uO y y.a)else P))=iy (if y.a.bK=gi then iy P (uO y y.a)else P) (uO y y.b)
 exact if_pos h
theorem aey{gi:Int}{y:Ch}(P:List Mp)(h:¬y.b.bK=gi):EO gi y P 2=EO gi y P 1:=by
 show(if y.b.bK=gi then iy (if y.a.bK=gi then iy P (uO y y.a)else P) (uO y y.b)else(if y.a.bK=gi then iy P (uO y y.a)else P))=(if y.a.bK=gi then iy P (uO y y.a)else P)
 exact if_neg h
theorem aez{P:Program}{w:World}{ops:Array Oper}{rest:List Oper}{o:Oper}{a:Act}{Q:Exit->Act->World->Prop}(hgd:o.guard=none)(t:TypeId)(x hi:Operand)(ho:o.op= .slice t x none (some hi) none)(vx vh:Value)(hx:a.eval x=vx)(hh:a.eval hi=vh){v:Value}
  (hr:(Instr.sliceAt t vx none (some vh) none).run P w= .ok v w) (h:wpList P ops Q rest (a.put o.dst v) w):wpList P ops Q (o::rest) a w:=
 wpList_plain hgd fun K hK=>by
  unfold Oper.wp execOp;simp only [ho,Option.map_none,Option.map_some,hx,hh,Sem.run_bind,hr,Result.andThen_ok,Sem.run_pure];exact hK _ _ h
theorem VO(a:Addr)(N c k:Nat)(hk:k<=c)(W:World):(Instr.sliceAt 48 (.slice (some a) N c) none (some (.int .i64 (k:Int))) none).run Tryz.prog W= .ok (.slice (some a) k c) W:=by
 rw [run_sliceAt_slice W _ _ _ _ _ qP,run_slice_h W _ _ _ _ qP .i64 (k:Int) (by omega) (by omega),BM];simp [Result.andThen_ok,sliced,Addr.add]
theorem Vz(x:Cf)(a c:Value)(g:Int)(w:World)(hx:Ai w w.heap.size x a c)(hb:Aj x)(hf:qU x=true):Calls Tryz.prog 14 #[ji x a c,.int .i64 g] w (OB (oh x g) w):=by
 obtain⟨q0,hq0⟩:=aqx (w.heap.size);obtain⟨V,hV⟩:=aqx (w.alloc (.cells (vec 3 (eX x.ver a c)) 31));have k1:aU V q0 31 3 (eX x.ver a c):=(by rw [hV,hq0];exact aU.new w _ _ _);have hB:Below w.heap.size w V:=(by rw [hV];exact(aC _ _).alloc (aj _) _);obtain⟨hfg,hfc,hfa⟩:=iI hf;obtain⟨A,d,A2,d2,rfl,rfl,hch,hgu⟩:=xG (hx.up hB);obtain⟨x0,x1,x2⟩:=vF k1;obtain⟨N,hN⟩:=aqx (x.gs.length);obtain⟨M,hM⟩:=aqx (x.dH.length);unfold ji;rw [<-hN]at x1 hV⊢;rw [<-hM]at x2 hV⊢;rw [<-hN, <-hM]at k1;have hNb:N<=20:=(by rw [hN];exact hfg);have hMb:M<=40:=(by rw [hM];exact hfc);have HW:=ah hV;have HQ:=ah hq0;have HB0:=ah hB;have zh:Hid (∀Y,Below V.heap.size V Y->Y.cell? ⟨q0,1,none⟩=some (.slice A N d)/\ Y.cell? ⟨q0,2,none⟩=some (.slice A2 M d2)):=ah (fun Y hY=>by
   have h:=k1.under hY;exact⟨h.cell (i:=1) (by decide),h.cell (i:=2) (by decide)⟩)
 have zX:Hid (∀n W,Below V.heap.size V W->OB (.error n) w (.returned (.tuple #[.slice none 0 0,.int .i64 (n:Nat)])) W):=ah (fun n W h=>⟨rfl,hB.trans (h.mono hB.size)⟩);have bT:Hid (∀v W L,qL W V.heap.size v L->Below V.heap.size V W->OB (.ok L) w (.returned (.tuple #[v,.int .i64 0])) W):=ah (fun v W L h1 h2=>⟨v,rfl,h1.low hB.size,hB.trans (h2.mono hB.size)⟩);by_cases hno:g<0∨(x.gs.length:Int)<=g
 · have hg0:oh x g= .error 1:=by unfold oh;rw [vW hno]
   rw [hg0];have HE:=ah (zX.out 1 V (aC _ _));have y1:=(zh.out V (aC _ _)).1;rw [<-hN]at hno;clear hgu hch hV k1 hB hx hb hf hfg hfc hfa x0 x1 x2 hN hM hq0 hg0 bT zX zh;by_cases h0:g<0
   · clear hno
     go_enter Tryz.func14,Tryz.ntmps14;go_upto_region 1 with fail
     rw [<-HW.out, <-HQ.out];clear HW;go_wp2_with fail
     go_ret2
     exact HE.out
   · have h1:(N:Int)<=g:=by omega
     clear hno;go_enter Tryz.func14,Tryz.ntmps14;go_upto_region 1 with fail
     rw [<-HW.out, <-HQ.out];clear HW;go_wp2_with fail
     go_ret2
     exact HE.out
 · obtain⟨i,rfl⟩:=au (show 0<=g by omega)
   have hi:i<x.gs.length:=(by omega);have hpg:oh x (i:Int)=if Ej (pG (kY x.gs[i] x.dH (i:Int)))=true then .ok (pG (kY x.gs[i] x.dH (i:Int)))else .error 160:=by
     unfold oh;rw [mJ hi]
   rw [hpg];obtain⟨a0,q,A1,e1,A3,e3,rfl,hq,hcell⟩:=hgu i hi;have hgb:=hb.gs _ (ay hi);have hfew:=jZ (hfa _ (ay hi));have hSB:=SQ (g:=(i:Int)) hgb.wins hgb.dG hb.dH;have hSE:=QS x.gs[i] x.dH (i:Int);obtain⟨S,hS⟩:=aqx (pG (kY x.gs[i] x.dH (i:Int)));rw [<-hS]at hSB hSE⊢;obtain⟨lw,hlw⟩:=aqx (x.gs[i].wins);obtain⟨ld,hld⟩:=aqx (x.gs[i].dG);obtain⟨lc,hlc⟩:=aqx (x.dH);have hwb:∀y∈lw,KW y:=(by rw [hlw];exact hgb.wins);have hdb:∀y∈ld,W9 y:=(by rw [hld];exact hgb.dG);have hcb:∀y∈lc,Ui y:=(by rw [hlc];exact hb.dH);have hwl:lw.length<=20:=(by rw [hlw];exact hfew.1);have hdl:ld.length<=20:=(by rw [hld];exact hfew.2.1);rw [<-hlw, <-hld]at hcell;rw [<-hlw, <-hld, <-hlc]at hSE;rw [<-hlc]at hch hM;obtain⟨NW,KZ⟩:=aqx (lw.length);obtain⟨ND,RH⟩:=aqx (ld.length);have afl:NW<=20:=(by rw [KZ];exact hwl);have afm:ND<=20:=(by rw [RH];exact hdl);rw [<-KZ, <-RH]at hcell;obtain⟨gi,hgi⟩:∃z:Int,z=(i:Int):=⟨_,rfl⟩;rw [<-hgi]at hSE;have HSL:Hid (S.length<=120):=ah (by rw [hSE,rD,rD,rD,List.length_map,List.length_map,List.length_nil];have:=yw gi lc;omega);obtain⟨Q,hQ⟩:=aqx (OB (if Ej S=true then .ok S else .error 160) w);have acr:Hid (Ej S=true->∀v W,qL W V.heap.size v S->Below V.heap.size V W->Q (.returned (.tuple #[v,.int .i64 0])) W):=ah (fun h v W h1 h2=>by rw [hQ,if_pos h];exact bT.out v W S h1 h2);have HBAD:Hid (Ej S=false->∀W,Below V.heap.size V W->Q (.returned (.tuple #[.slice none 0 0,.int .i64 160])) W):=ah (fun h W h2=>by rw [hQ,if_neg (by rw [h];decide)];exact zX.out 160 W h2);rw [<-hQ];have HG:=ah hcell;have HCH:=ah hch;have RI:=ah KZ;have Z4:=ah RH;have Lh:=ah hM;have HSE:=ah hSE;have HSB:=ah hSB;have hiN:(i:Int)< (N:Int):=(by omega);have afo:i<N:=(by omega);have hi0:¬ (i:Int)<0:=(by omega);have hiG:¬ (N:Int)<=(i:Int):=(by omega);have Xe:=ah hgi;have y1:=(zh.out V (aC _ _)).1;obtain⟨⟨z1,z2⟩,-⟩:=hcell V (aC _ _);clear hgu hch hV k1 hB hx hb hf hfg hfc hfa x0 x1 x2 hN hM hq0 hno hpg hcell hgb hfew hlw hld hlc hwb hdb hcb hwl hdl KZ RH hi bT zX hQ hS hSE hSB hgi;go_enter Tryz.func14,Tryz.ntmps14;go_upto_region 1 with fail
   rw [<-HW.out, <-HQ.out];clear HW;go_upto_region 4 with fail
   clear hiG;go_wp2_with fail
   clear z1 z2 y1;go_loopw [6,35] (fun s v W=>∃ (k:Nat) (v0:Value),k<=NW/\ v= .int .i64 k/\ v0=s/\ Hid (qL W V.heap.size v0 (((lw.take k).map V6).foldl iy []))/\ Hid (Below V.heap.size V W)) (fun _ v _=>NW-(intOf v).toNat)
   case atStart=>exact⟨0,_,aB _,rfl,rfl,ah (gW.nil _ _),ah (aC _ _)⟩
   case round=>
     obtain⟨k,v0,hk,rfl,rfl,HO,HB⟩:=hrel;obtain⟨W,hW⟩:=aqx wr;subst hW;by_cases hlt0:k<NW
     · have hlt:k<lw.length:=by have:=RI.out;omega
       have g1:=(HG.out W HB.out).2.1;obtain⟨b0,p,ea,hp,-,hcp⟩:=g1.at hlt;obtain⟨y,hy⟩:=aqx (lw[k]);rw [<-hy]at hcp;have xF:Hid (((lw.take (k+1)).map V6).foldl iy []=iy (((lw.take k).map V6).foldl iy []) (V6 y)):=ah (by rw [JD V6 lw [] k hlt, <-hy]);have hki:(k:Int)< (NW:Int):=(by omega);have hlen1:(((lw.take k).map V6).foldl iy []).length<=1000:=(by rw [rD,List.length_map,List.length_take];simp only [List.length_nil];omega);obtain⟨r,hr⟩:=aqx (W.heap.size);obtain⟨X,hX⟩:=aqx ((W.alloc (.cells (vec 4 (bG JJ)) 67)).setRow W.heap.size (vec 4 (bG y)));have b1:Below W.heap.size W X:=(by rw [hX];exact bg ((aC _ _).alloc (aj _) _) (aj _) _);have a1:aU X r 67 4 (bG y):=(by rw [hX,hr];exact(aU.new W _ _ _).row _);have fU:=ah (HB.out.trans (b1.mono HB.out.size));have Bc:=ah (wK (V6 y) (gW.on HO.out b1 (aj _)) hlen1);have gI:=ah hcp;have HX:=ah hX;have HRR:=ah hr;have c0:X.cell? ⟨r,0,none⟩=some (.int .u64 y.fZ):=a1.cell (i:=0) (by decide);have c1:X.cell? ⟨r,1,none⟩=some (.int .u64 y.pa):=a1.cell (i:=1) (by decide);have c2:X.cell? ⟨r,2,none⟩=some (.int .u64 y.size):=a1.cell (i:=2) (by decide);have c3:X.cell? ⟨r,3,none⟩=some (.int .i64 y.perm):=a1.cell (i:=3) (by decide);subst ea;clear g1 hcp hlt hr hX b1 a1 hy hlen1 HO;go_upto_region 7 with(first
        |((with_reducible refine aqy (.load _ _) ?_);refine bC rfl 67 _ rfl p rfl _ (aW gI.out Tryz.underlying67 rfl gQ) ?_)
        |((with_reducible refine aqy (.store _ _ _) ?_);refine bD rfl 67 _ _ rfl _ rfl _ rfl (aS (aU.new W _ _ _) (bG y) gQ (mZ _ _)) ?_))
       rw [<-HX.out, <-HRR.out];clear HX gI HRR;go_wp2_with(first
        |((with_reducible refine aqy (.build _ _) ?_);refine dh rfl 87 _ rfl (vec 5 (kK (V6 y))) (by kernel_rfl) ?_)
        |(go_at_call 32;refine Bc.out.mono ?_;rintro e w2 ⟨v2,rfl,ho,hd⟩;have HO2:=ah ho;have HD:=ah hd;clear ho hd))
       go_roundw
       case rel=>exact⟨k+1,v2,by omega,by go_num,rfl,ah (by rw [xF.out];exact HO2.out.low fU.out.size),ah (fU.out.trans (HD.out.mono fU.out.size))⟩
       case measure=>simp [intOf];omega
     · obtain rfl:k=NW:=by omega
       clear hlt0;obtain⟨⟨z1,z2⟩,-⟩:=HG.out W HB.out;have y1:=(zh.out W HB.out).1;go_wp2_with fail
       clear z1 z2 y1;obtain⟨PW,hPW⟩:=aqx ((lw.map V6).foldl iy []);have HOW:Hid (qL W V.heap.size v0 PW):=ah (by rw [hPW];have h:=HO.out;rw [RI.out,List.take_length]at h;exact h);have SI:Hid (PW.length=k):=ah (by rw [hPW,rD,List.length_map,List.length_nil,RI.out,Nat.zero_add]);have aiO:Hid (S=(lc.flatMap (sK gi)).foldl iy ((ld.map Um).foldl iy PW)):=ah (by rw [hPW];exact HSE.out);clear hPW HO HSE;go_loopw [6,58] (fun s v Y=>∃ (m:Nat) (v0:Value),m<=ND/\ v= .int .i64 m/\ v0=s/\ Hid (qL Y V.heap.size v0 (((ld.take m).map Um).foldl iy PW))/\ Hid (Below V.heap.size V Y)) (fun _ v _=>ND-(intOf v).toNat)
       case atStart=>exact⟨0,_,aB _,rfl,rfl,ah (by rw [List.take_zero,List.map_nil];exact HOW.out),HB⟩
       case round=>
        obtain⟨m,v0,hm,rfl,rfl,HO,HB⟩:=hrel;obtain⟨Y,hY⟩:=aqx wr;subst hY;by_cases hlt0:m<ND
        · have hlt:m<ld.length:=by have:=Z4.out;omega
          have g1:=(HG.out Y HB.out).2.2;obtain⟨b0,p,ea,hp,-,hcp⟩:=g1.at hlt;obtain⟨y,hy⟩:=aqx (ld[m]);rw [<-hy]at hcp;have xF:Hid (((ld.take (m+1)).map Um).foldl iy PW=iy (((ld.take m).map Um).foldl iy PW) (Um y)):=ah (by rw [JD Um ld PW m hlt, <-hy]);have hki:(m:Int)< (ND:Int):=(by omega);have hlen1:(((ld.take m).map Um).foldl iy PW).length<=1000:=(by rw [rD,List.length_map,List.length_take];rw [SI.out];omega);obtain⟨r,hr⟩:=aqx (Y.heap.size);obtain⟨X,hX⟩:=aqx ((Y.alloc (.cells (vec 3 (iC zDe)) 83)).setRow Y.heap.size (vec 3 (iC y)));have b1:Below Y.heap.size Y X:=(by rw [hX];exact bg ((aC _ _).alloc (aj _) _) (aj _) _);have a1:aU X r 83 3 (iC y):=(by rw [hX,hr];exact(aU.new Y _ _ _).row _);have fU:=ah (HB.out.trans (b1.mono HB.out.size));have Bc:=ah (wK (Um y) (gW.on HO.out b1 (aj _)) hlen1);have gI:=ah hcp;have HX:=ah hX;have HRR:=ah hr;have c0:X.cell? ⟨r,0,none⟩=some (.int .u64 y.fZ):=a1.cell (i:=0) (by decide);have c1:X.cell? ⟨r,1,none⟩=some (.int .u64 y.pa):=a1.cell (i:=1) (by decide);have c2:X.cell? ⟨r,2,none⟩=some (.int .u64 y.size):=a1.cell (i:=2) (by decide);subst ea;clear g1 hcp hlt hr hX b1 a1 hy hlen1 HO;go_upto_region 12 with(first
           |((with_reducible refine aqy (.load _ _) ?_);refine bC rfl 83 _ rfl p rfl _ (aW gI.out Tryz.underlying83 rfl qG) ?_)
           |((with_reducible refine aqy (.store _ _ _) ?_);refine bD rfl 83 _ _ rfl _ rfl _ rfl (aS (aU.new Y _ _ _) (iC y) qG (xC _ _)) ?_))
          rw [<-HX.out, <-HRR.out];clear HX gI HRR;go_wp2_with(first
           |((with_reducible refine aqy (.build _ _) ?_);refine dh rfl 87 _ rfl (vec 5 (kK (Um y))) (by kernel_rfl) ?_)
           |(go_at_call 32;refine Bc.out.mono ?_;rintro e w2 ⟨v2,rfl,ho,hd⟩;have HO2:=ah ho;have HD:=ah hd;clear ho hd))
          go_roundw
          case rel=>exact⟨m+1,v2,by omega,by go_num,rfl,ah (by rw [xF.out];exact HO2.out.low fU.out.size),ah (fU.out.trans (HD.out.mono fU.out.size))⟩
          case measure=>simp [intOf];omega
        · obtain rfl:m=ND:=by omega
          clear hlt0;obtain⟨PD,hPD⟩:=aqx ((ld.map Um).foldl iy PW);have HOD:Hid (qL Y V.heap.size v0 PD):=ah (by rw [hPD];have h:=HO.out;rw [Z4.out,List.take_length]at h;exact h);have HDL:Hid (PD.length<=40):=ah (by rw [hPD,rD,List.length_map,SI.out];have:=Z4.out;omega);have aiP:Hid (S=(lc.flatMap (sK gi)).foldl iy PD):=ah (by rw [hPD];exact aiO.out);have y2:=(zh.out Y HB.out).2;clear hPD HO aiO HOW;go_wp2_with fail
          clear y2;rw [<-Xe.out];go_loopw [6,75] (fun s v W=>∃ (n:Nat) (v0:Value),n<=M/\ v= .int .i64 n/\ v0=s/\ Hid (qL W V.heap.size v0 (((lc.take n).flatMap (sK gi)).foldl iy PD))/\ Hid (Below V.heap.size V W)) (fun _ v _=>M-(intOf v).toNat)
          case atStart=>exact⟨0,_,aB _,rfl,rfl,ah (by rw [List.take_zero,List.flatMap_nil];exact HOD.out),HB⟩
          case round=>
           obtain⟨n,v0,hn,rfl,rfl,HO,HB⟩:=hrel;obtain⟨W1,hW1⟩:=aqx wr;subst hW1;by_cases hlt0:n<M
           · have hlt:n<lc.length:=by have:=Lh.out;omega
             have g1:=HCH.out W1 HB.out;obtain⟨b0,p,ea,hp,-,hcp⟩:=g1.at hlt;obtain⟨y,hy⟩:=aqx (lc[n]);rw [<-hy]at hcp;obtain⟨PK,hPK⟩:=aqx (((lc.take n).flatMap (sK gi)).foldl iy PD);have xF:Hid (((lc.take (n+1)).flatMap (sK gi)).foldl iy PD=EO gi y PK 2):=ah (by rw [QO gi lc PD n hlt, <-hy,abz,hPK]);have aiQ:Hid (PK.length<=120):=ah (by rw [hPK,rD];have h1:=yw gi (lc.take n);rw [List.length_take]at h1;have:=HDL.out;omega);rw [<-hPK]at HO;have hki:(n:Int)< (M:Int):=(by omega);obtain⟨r,hr⟩:=aqx (W1.heap.size);obtain⟨X,hX⟩:=aqx ((W1.alloc (.cells (vec 8 (kJ Uf)) 47)).setRow W1.heap.size (vec 8 (kJ y)));have b1:Below W1.heap.size W1 X:=(by rw [hX];exact bg ((aC _ _).alloc (aj _) _) (aj _) _);have a1:aU X r 47 8 (kJ y):=(by rw [hX,hr];exact(aU.new W1 _ _ _).row _);have fU:=ah (HB.out.trans (b1.mono HB.out.size));have HOX:=ah (gW.on HO.out b1 (aj _));have HAC:=ah a1;have gI:=ah hcp;have HX:=ah hX;have HRR:=ah hr;have WZ:Hid (∀i,i<6->X.cell? ((⟨r,2,none⟩:Addr).add i)=some (yG y.a y.b i)):=ah (fun i hi=>by
              rw [lF,HAC.out.cell (by omega),Nat.add_comm 2 i]
              rfl)
             subst ea;clear g1 hcp hlt hr hX b1 a1 hy hPK HO;go_upto_region 17 with(first
              |((with_reducible refine aqy (.load _ _) ?_);refine bC rfl 47 _ rfl p rfl _ (aW gI.out Tryz.underlying47 rfl nJ) ?_)
              |((with_reducible refine aqy (.store _ _ _) ?_);refine bD rfl 47 _ _ rfl _ rfl _ rfl (aS (aU.new W1 _ _ _) (kJ y) nJ (vV _ _)) ?_))
             rw [<-HX.out, <-HRR.out];clear HX gI HRR;go_wp2_with((with_reducible refine aqy (.load _ _) ?_);refine bC rfl 45 _ rfl ⟨r,2,none⟩ rfl _ (aW WZ.out Tryz.underlying45 rfl Pv) ?_)
             clear WZ;go_loopw [6,81] (fun s j Y=>∃ (i:Nat) (v1:Value),i<=2/\ j= .int .i64 i/\ v1=s/\ Hid (qL Y V.heap.size v1 (EO gi y PK i))/\ Hid (Below X.heap.size X Y)) (fun _ j _=>2-(intOf j).toNat)
             case atStart=>exact⟨0,_,aB _,rfl,rfl,HOX,ah (aC _ _)⟩
             case round=>
              obtain⟨i2,v1,hi2,rfl,rfl,HOZ,HBZ⟩:=hrel;obtain⟨Z,hZ⟩:=aqx wr;subst hZ;clear HOX;rcases(by omega:i2=0∨i2=1∨i2=2)with rfl|rfl|rfl
              · obtain⟨z,hz⟩:=aqx (y.a)
                have Fh:Hid (∀W:World,(Instr.index 45 (.agg (vec 6 (yG y.a y.b))) (.int .i64 0)).run Tryz.prog W= .ok (.agg (vec 3 (dY z))) W):=ah (fun W=>by rw [hz];exact Px y.a y.b W);have je:Hid (z.bK=gi->EO gi y PK 1=iy (EO gi y PK 0) (uO y z)):=ah (fun h=>by rw [hz]at h⊢;exact aev PK h);have zB:Hid (¬z.bK=gi->EO gi y PK 1=EO gi y PK 0):=ah (fun h=>by rw [hz]at h;exact aew PK h);have hlen1:(EO gi y PK 0).length<=1000:=(by have:=TG gi y PK 0;have:=aiQ.out;omega);obtain⟨u,hu⟩:=aqx (Z.heap.size);obtain⟨X3,uF⟩:=aqx ((Z.alloc (.cells (vec 3 (dY Ue)) 44)).setRow Z.heap.size (vec 3 (dY z)));have b3:Below Z.heap.size Z X3:=(by rw [uF];exact bg ((aC _ _).alloc (aj _) _) (aj _) _);have a3:aU X3 u 44 3 (dY z):=(by rw [uF,hu];exact(aU.new Z _ _ _).row _);have HB3:=ah (HBZ.out.trans (b3.mono HBZ.out.size));have a4:=HAC.out.under HB3.out;have Ih:=ah (gW.on HOZ.out b3 (aj _));have Bc:=ah (wK (uO y z) Ih.out hlen1);have Aa:=ah uF;have HU:=ah hu;have c0:X3.cell? ⟨r,0,none⟩=some (.int .u64 y.pa):=a4.cell (i:=0) (by decide);have c1:X3.cell? ⟨r,1,none⟩=some (.int .u64 y.size):=a4.cell (i:=1) (by decide);have d0:X3.cell? ⟨u,0,none⟩=some (.int .i64 z.bK):=a3.cell (i:=0) (by decide);have d1:X3.cell? ⟨u,1,none⟩=some (.int .i64 z.perm):=a3.cell (i:=1) (by decide);have d2:X3.cell? ⟨u,2,none⟩=some (.int .u64 z.fZ):=a3.cell (i:=2) (by decide);clear hz hu uF b3 a3 a4 hlen1 HOZ;have hix:=Fh.out Z;go_upto_region 20 with((with_reducible refine aqy (.store _ _ _) ?_);refine bD rfl 44 _ _ rfl _ rfl _ rfl (aS (aU.new Z _ _ _) (dY z) nX (lM _ _)) ?_)
                rw [<-Aa.out, <-HU.out];clear Aa HU Fh hix;by_cases ta:z.bK=gi
                · have ta1:(z.bK==gi)=true:=by simpa using ta
                  have HF:=ah (je.out ta);clear je zB;go_wp2_with(first
                    |((with_reducible refine aqy (.build _ _) ?_);refine dh rfl 87 _ rfl (vec 5 (kK (uO y z))) (by kernel_rfl) ?_)
                    |(go_at_call 32;refine Bc.out.mono ?_;rintro e w2 ⟨v2,rfl,ho,hd⟩;have HO2:=ah ho;have HD:=ah hd;clear ho hd))
                  go_roundw
                  case rel=>exact⟨1,v2,by omega,by go_num,rfl,ah (by rw [HF.out];exact HO2.out.low (aA fU.out.size HB3.out.size)),ah (HB3.out.trans (HD.out.mono HB3.out.size))⟩
                  case measure=>simp [intOf]
                · have ta1:(z.bK==gi)=false:=by simpa using ta
                  have HF:=ah (zB.out ta);clear je zB;go_wp2_with fail
                  go_roundw
                  case rel=>exact⟨1,_,by omega,by go_num,rfl,ah (by rw [HF.out];exact Ih.out),HB3⟩
                  case measure=>simp [intOf]
              · obtain⟨z,hz⟩:=aqx (y.b)
                have Fh:Hid (∀W:World,(Instr.index 45 (.agg (vec 6 (yG y.a y.b))) (.int .i64 1)).run Tryz.prog W= .ok (.agg (vec 3 (dY z))) W):=ah (fun W=>by rw [hz];exact indexB y.a y.b W);have je:Hid (z.bK=gi->EO gi y PK 2=iy (EO gi y PK 1) (uO y z)):=ah (fun h=>by rw [hz]at h⊢;exact aex PK h);have zB:Hid (¬z.bK=gi->EO gi y PK 2=EO gi y PK 1):=ah (fun h=>by rw [hz]at h;exact aey PK h);have hlen1:(EO gi y PK 1).length<=1000:=(by have:=TG gi y PK 1;have:=aiQ.out;omega);obtain⟨u,hu⟩:=aqx (Z.heap.size);obtain⟨X3,uF⟩:=aqx ((Z.alloc (.cells (vec 3 (dY Ue)) 44)).setRow Z.heap.size (vec 3 (dY z)));have b3:Below Z.heap.size Z X3:=(by rw [uF];exact bg ((aC _ _).alloc (aj _) _) (aj _) _);have a3:aU X3 u 44 3 (dY z):=(by rw [uF,hu];exact(aU.new Z _ _ _).row _);have HB3:=ah (HBZ.out.trans (b3.mono HBZ.out.size));have a4:=HAC.out.under HB3.out;have Ih:=ah (gW.on HOZ.out b3 (aj _));have Bc:=ah (wK (uO y z) Ih.out hlen1);have Aa:=ah uF;have HU:=ah hu;have c0:X3.cell? ⟨r,0,none⟩=some (.int .u64 y.pa):=a4.cell (i:=0) (by decide);have c1:X3.cell? ⟨r,1,none⟩=some (.int .u64 y.size):=a4.cell (i:=1) (by decide);have d0:X3.cell? ⟨u,0,none⟩=some (.int .i64 z.bK):=a3.cell (i:=0) (by decide);have d1:X3.cell? ⟨u,1,none⟩=some (.int .i64 z.perm):=a3.cell (i:=1) (by decide);have d2:X3.cell? ⟨u,2,none⟩=some (.int .u64 z.fZ):=a3.cell (i:=2) (by decide);clear hz hu uF b3 a3 a4 hlen1 HOZ;have hix:=Fh.out Z;go_upto_region 20 with((with_reducible refine aqy (.store _ _ _) ?_);refine bD rfl 44 _ _ rfl _ rfl _ rfl (aS (aU.new Z _ _ _) (dY z) nX (lM _ _)) ?_)
                rw [<-Aa.out, <-HU.out];clear Aa HU Fh hix;by_cases ta:z.bK=gi
                · have ta1:(z.bK==gi)=true:=by simpa using ta
                  have HF:=ah (je.out ta);clear je zB;go_wp2_with(first
                    |((with_reducible refine aqy (.build _ _) ?_);refine dh rfl 87 _ rfl (vec 5 (kK (uO y z))) (by kernel_rfl) ?_)
                    |(go_at_call 32;refine Bc.out.mono ?_;rintro e w2 ⟨v2,rfl,ho,hd⟩;have HO2:=ah ho;have HD:=ah hd;clear ho hd))
                  go_roundw
                  case rel=>exact⟨2,v2,by omega,by go_num,rfl,ah (by rw [HF.out];exact HO2.out.low (aA fU.out.size HB3.out.size)),ah (HB3.out.trans (HD.out.mono HB3.out.size))⟩
                  case measure=>simp [intOf]
                · have ta1:(z.bK==gi)=false:=by simpa using ta
                  have HF:=ah (zB.out ta);clear je zB;go_wp2_with fail
                  go_roundw
                  case rel=>exact⟨2,_,by omega,by go_num,rfl,ah (by rw [HF.out];exact Ih.out),HB3⟩
                  case measure=>simp [intOf]
              · go_wp2_with fail
                go_roundw
                case rel=>exact⟨n+1,_,by omega,by go_num,rfl,ah (by rw [xF.out];exact HOZ.out),ah (fU.out.trans (HBZ.out.mono fU.out.size))⟩
                case measure=>simp [intOf];omega
           · obtain rfl:n=M:=by omega
             clear hlt0;have HOS:Hid (qL W1 V.heap.size v0 S):=ah (by have h:=HO.out;rw [Lh.out,List.take_length]at h;rw [aiP.out];exact h);clear HO aiP HOD;obtain⟨A5,c5,hv5,hc5,EJ,-⟩:=HOS.out.form;obtain⟨N5,hN5⟩:=aqx (S.length);rw [<-hN5]at hv5 hc5;subst hv5;have HN5:=ah hN5;have apw:N5<=120:=(by rw [hN5];exact HSL.out);have Yk:=ah EJ;have HOF:Hid (∀k,k<S.length->Gy S k=false->Ej S=false):=ah (fun k hk h=>Jm hk h);have RY:Hid ((List.range S.length).all (Gy S)=true->Ej S=true):=ah (fun h=>h);obtain⟨G,hG⟩:=aqx (Ej S);rw [<-hG]at HOF RY acr HBAD;clear EJ hN5 hG;go_wp2_with fail
             go_loopw [4,5,103] (fun _ _ v Y=>∃k:Nat,k<=N5/\ v= .int .i64 k/\ Hid ((List.range k).all (Gy S)=true)/\ Hid (Below W1.heap.size W1 Y)) (fun _ _ v _=>N5-(intOf v).toNat)
             case atStart=>exact⟨0,aB _,rfl,ah rfl,ah (aC _ _)⟩
             case round=>
              obtain⟨k,hk,rfl,Ap,HB6⟩:=hrel;obtain⟨W6,hW6⟩:=aqx wr;subst hW6;by_cases hlt0:k<N5
              · have hlt:k<S.length:=by have:=HN5.out;omega
                have g1:=Yk.out.up HB6.out;obtain⟨b0,p,ea,hp,-,hcp⟩:=g1.at hlt;obtain⟨y,hy⟩:=aqx (S[k]);rw [<-hy]at hcp;have hyb:Cj y:=(by rw [hy];exact HSB.out _ (ay _));obtain⟨pi,hpi⟩:=au hyb.fZ.1;obtain⟨pp,hpp⟩:=au hyb.pa.1;obtain⟨sn,hsn⟩:=au hyb.size.1;have e1:lC y=(pi,sn):=(by unfold lC;rw [hpi,hsn];rfl);have e2:paS y=(pp,sn):=(by unfold paS;rw [hpp,hsn];rfl);have hf1:fit (pi,sn):=e1▸Az hyb;have hf2:fit (pp,sn):=e2▸Xf hyb;obtain⟨fov,aeA⟩:∃f:Mp->Bool,f=fun z=> !overlap (pi,sn) (lC z):=⟨_,rfl⟩;have HFO:Hid (∀z,fov z= !overlap (pi,sn) (lC z)):=ah (fun z=>by rw [aeA]);have QT:Hid (Gy S k=((good (pi,sn)&&good (pp,sn))&&(S.take k).all fov)):=ah (by rw [yB hlt, <-hy,aeA];unfold JO;rw [e1,e2]);have HNX:Hid (Gy S k=true->(List.range (k+1)).all (Gy S)=true):=ah (fun h=>Gt Ap.out h);have HFF:Hid (Gy S k=false->G=false):=ah (HOF.out k hlt);have Le:=ah (fun W=>YL (pi,sn) hf1 W);have HGB:=ah (fun W=>YL (pp,sn) hf2 W);have HF1:=ah hf1;obtain⟨q1,hq1⟩:=aqx (good (pi,sn));obtain⟨q2,hq2⟩:=aqx (good (pp,sn));rw [<-hq1, <-hq2]at QT;rw [<-hq1]at Le;rw [<-hq2]at HGB;unfold jc at Le HGB;have hki:(k:Int)< (N5:Int):=(by omega);obtain⟨r,hr⟩:=aqx (W6.heap.size);obtain⟨X,hX⟩:=aqx ((W6.alloc (.cells (vec 5 (kK zMp)) 87)).setRow W6.heap.size (vec 5 (kK y)));have b1:Below W6.heap.size W6 X:=(by rw [hX];exact bg ((aC _ _).alloc (aj _) _) (aj _) _);have a1:aU X r 87 5 (kK y):=(by rw [hX,hr];exact(aU.new W6 _ _ _).row _);have fU:=ah (HB6.out.trans (b1.mono HB6.out.size));have gI:=ah hcp;have HX:=ah hX;have HRR:=ah hr;have HA:=ah a1;have HPC:Hid (∀Y,aU Y r 87 5 (kK y)->Y.cell? ⟨r,0,none⟩=some (.int .u64 (pi:Int))/\ Y.cell? ⟨r,1,none⟩=some (.int .u64 (pp:Int))/\ Y.cell? ⟨r,2,none⟩=some (.int .u64 (sn:Int))):=ah (fun Y h=>⟨by rw [<-hpi];exact h.cell (i:=0) (by decide),by rw [<-hpp];exact h.cell (i:=1) (by decide),by rw [<-hsn];exact h.cell (i:=2) (by decide)⟩);obtain⟨x0,x1,x2⟩:=HPC.out _ a1;subst ea;clear g1 hcp hlt hr hX b1 a1 hyb hy hpi hpp hsn e1 e2 hf1 hf2 aeA hq1 hq2 Ap;go_upto_region 27 with(first
                  |((with_reducible refine aqy (.load _ _) ?_);refine bC rfl 87 _ rfl p rfl _ (aW gI.out Tryz.underlying87 rfl lN) ?_)
                  |((with_reducible refine aqy (.store _ _ _) ?_);refine bD rfl 87 _ _ rfl _ rfl _ rfl (aS (aU.new W6 _ _ _) (kK y) lN (Aq _ _)) ?_))
                rw [<-HX.out, <-HRR.out];clear HX gI HRR;cases q1
                · have HE:=ah (HBAD.out (HFF.out (by rw [QT.out];rfl)))
                  clear HNX HFF QT;go_wp2_with(first
                    |((with_reducible refine aqy (.build _ _) ?_);refine dh rfl 24 _ rfl (vec 2 (bQ (pi,sn))) (by kernel_rfl) ?_)
                    |(go_at_call 33;(with_reducible show Calls _ _ #[.agg (vec 2 (bQ (pi,sn)))] _ _);refine(Le.out _).mono ?_;rintro e w2 ⟨rfl,hd⟩;have HD:=ah (fU.out.trans (hd.mono fU.out.size));have HA2:=ah (HA.out.under hd);obtain⟨y0,y1,y2⟩:=HPC.out _ HA2.out;clear hd))
                  exact HE.out _ (HB.out.trans (HD.out.mono HB.out.size))
                cases q2
                · have HE:=ah (HBAD.out (HFF.out (by rw [QT.out];rfl)))
                  clear HNX HFF QT;go_wp2_with(first
                    |((with_reducible refine aqy (.build _ _) ?_);refine dh rfl 24 _ rfl (vec 2 (bQ (pi,sn))) (by kernel_rfl) ?_)
                    |(go_at_call 33;(with_reducible show Calls _ _ #[.agg (vec 2 (bQ (pi,sn)))] _ _);refine(Le.out _).mono ?_;rintro e w2 ⟨rfl,hd⟩;have HD:=ah (fU.out.trans (hd.mono fU.out.size));have HA2:=ah (HA.out.under hd);obtain⟨y0,y1,y2⟩:=HPC.out _ HA2.out;clear hd)
                    |((with_reducible refine aqy (.build _ _) ?_);refine dh rfl 24 _ rfl (vec 2 (bQ (pp,sn))) (by kernel_rfl) ?_)
                    |(go_at_call 33;(show Calls _ _ #[.agg (vec 2 (bQ (pp,sn)))] _ _);refine(HGB.out _).mono ?_;rintro e w3 ⟨rfl,hd⟩;have HD:=ah (HD.out.trans (hd.mono HD.out.size));have wz:=ah (HA2.out.under hd);clear hd))
                  exact HE.out _ (HB.out.trans (HD.out.mono HB.out.size))
                have aeB:Hid (Gy S k=(S.take k).all fov):=ah (by rw [QT.out];rfl);clear QT;go_upto_region 29 with(first
                  |((with_reducible refine aqy (.build _ _) ?_);refine dh rfl 24 _ rfl (vec 2 (bQ (pi,sn))) (by kernel_rfl) ?_)
                  |(go_at_call 33;(with_reducible show Calls _ _ #[.agg (vec 2 (bQ (pi,sn)))] _ _);refine(Le.out _).mono ?_;rintro e w2 ⟨rfl,hd⟩;have HD:=ah (fU.out.trans (hd.mono fU.out.size));have HA2:=ah (HA.out.under hd);obtain⟨y0,y1,y2⟩:=HPC.out _ HA2.out;clear hd)
                  |((with_reducible refine aqy (.build _ _) ?_);refine dh rfl 24 _ rfl (vec 2 (bQ (pp,sn))) (by kernel_rfl) ?_)
                  |(go_at_call 33;(show Calls _ _ #[.agg (vec 2 (bQ (pp,sn)))] _ _);refine(HGB.out _).mono ?_;rintro e w3 ⟨rfl,hd⟩;have HD:=ah (HD.out.trans (hd.mono HD.out.size));have wz:=ah (HA2.out.under hd);clear hd))
                clear x0 x1 x2 y0 y1 y2;have aiW:=ah (fun W=>VO b0 N5 c5 k (by omega) W);go_wp2_with((with_reducible refine aqy (.slice _ _ _ _ _) ?_);refine aez rfl 48 _ _ rfl _ _ rfl rfl (aiW.out _) ?_)
                clear aiW;go_loopw [4,5,128] (fun _ _ v Z=>∃j:Nat,j<=k/\ v= .int .i64 j/\ Hid ((S.take j).all fov=true)/\ Hid (Below w3.heap.size w3 Z)) (fun _ _ v _=>k-(intOf v).toNat)
                case atStart=>exact⟨0,aB _,rfl,ah rfl,ah (aC _ _)⟩
                case round=>
                  obtain⟨j,hj,rfl,OX,HB7⟩:=hrel;obtain⟨W7,hW7⟩:=aqx wr;subst hW7;by_cases hlt1:j<k
                  · have hlt:j<S.length:=by have:=HN5.out;omega
                    have hb7:=HD.out.trans (HB7.out.mono HD.out.size);have g1:=Yk.out.up hb7;obtain⟨b2,p2,ea,hp2,-,hcp⟩:=g1.at hlt;injection ea with ea
                    subst ea;obtain⟨z,hz⟩:=aqx (S[j]);rw [<-hz]at hcp;have hzb:Cj z:=(by rw [hz];exact HSB.out _ (ay _));obtain⟨zi,hzi⟩:=au hzb.fZ.1;obtain⟨zs,hzs⟩:=au hzb.size.1;have e1:lC z=(zi,zs):=(by unfold lC;rw [hzi,hzs];rfl);have hf2:fit (zi,zs):=e1▸Az hzb;have HVC:=ah (fun W=>qM (pi,sn) (zi,zs) HF1.out hf2 W);have HFZ:Hid (fov z= !overlap (pi,sn) (zi,zs)):=ah (by rw [HFO.out,e1]);obtain⟨q3,hq3⟩:=aqx (overlap (pi,sn) (zi,zs));rw [<-hq3]at HVC HFZ;unfold jc at HVC;have HNJ:Hid (fov z=true->(S.take (j+1)).all fov=true):=ah (fun h=>by rw [aO hlt,List.all_append,OX.out,List.all_cons, <-hz,h];rfl);have Jw:Hid (fov z=false->(S.take k).all fov=false):=ah (fun h=>by
                      rw [<-Bool.not_eq_true,List.all_eq_true];intro hall;have:=hall z (by rw [List.mem_iff_getElem];exact⟨j,by rw [List.length_take];omega,by rw [List.getElem_take];exact hz.symm⟩);rw [h]at this;cases this)
                    have hji:(j:Int)< (k:Int):=(by omega);obtain⟨r2,hr2⟩:=aqx (W7.heap.size);obtain⟨X2,hX2⟩:=aqx ((W7.alloc (.cells (vec 5 (kK zMp)) 87)).setRow W7.heap.size (vec 5 (kK z)));have b1:Below W7.heap.size W7 X2:=(by rw [hX2];exact bg ((aC _ _).alloc (aj _) _) (aj _) _);have a1:aU X2 r2 87 5 (kK z):=(by rw [hX2,hr2];exact(aU.new W7 _ _ _).row _);have Zq:=ah (HB7.out.trans (b1.mono HB7.out.size));have gI:=ah hcp;have MV:=ah hX2;have HRR:=ah hr2;obtain⟨x0,-,x2⟩:=HPC.out _ (wz.out.under Zq.out);have z0:X2.cell? ⟨r2,0,none⟩=some (.int .u64 (zi:Int)):=(by rw [<-hzi];exact a1.cell (i:=0) (by decide));have z2:X2.cell? ⟨r2,2,none⟩=some (.int .u64 (zs:Int)):=(by rw [<-hzs];exact a1.cell (i:=2) (by decide));clear hb7 g1 hcp hlt hr2 hX2 b1 a1 hzb hz hzi hzs e1 hf2 hq3 OX;go_upto_region 32 with(first
                      |((with_reducible refine aqy (.load _ _) ?_);refine bC rfl 87 _ rfl p2 rfl _ (aW gI.out Tryz.underlying87 rfl lN) ?_)
                      |((with_reducible refine aqy (.store _ _ _) ?_);refine bD rfl 87 _ _ rfl _ rfl _ rfl (aS (aU.new W7 _ _ _) (kK z) lN (Aq _ _)) ?_))
                    rw [<-MV.out, <-HRR.out];clear MV gI HRR;cases q3
                    · have HS:=ah (HNJ.out (by rw [HFZ.out];rfl))
                      clear HNJ Jw HFZ;go_wp2_with(first
                       |((with_reducible refine aqy (.build _ #[(0,.tmp 133),(1,.tmp 135)]) ?_);refine dh rfl 24 _ rfl (vec 2 (bQ (pi,sn))) (by kernel_rfl) ?_)
                       |((with_reducible refine aqy (.build _ #[(0,.tmp 138),(1,.tmp 140)]) ?_);refine dh rfl 24 _ rfl (vec 2 (bQ (zi,zs))) (by kernel_rfl) ?_)
                       |(go_at_call 31;refine(HVC.out _).mono ?_;rintro e w4 ⟨rfl,hd⟩;have HD4:=ah (Zq.out.trans (hd.mono Zq.out.size));clear hd))
                      go_roundw
                      case rel=>exact⟨j+1,by omega,by go_num,HS,HD4⟩
                      case measure=>simp [intOf];omega
                    · have HE:=ah (HBAD.out (HFF.out (by rw [aeB.out];exact Jw.out (by rw [HFZ.out];rfl))))
                      clear HNJ Jw HFZ HNX HFF;go_wp2_with(first
                       |((with_reducible refine aqy (.build _ #[(0,.tmp 133),(1,.tmp 135)]) ?_);refine dh rfl 24 _ rfl (vec 2 (bQ (pi,sn))) (by kernel_rfl) ?_)
                       |((with_reducible refine aqy (.build _ #[(0,.tmp 138),(1,.tmp 140)]) ?_);refine dh rfl 24 _ rfl (vec 2 (bQ (zi,zs))) (by kernel_rfl) ?_)
                       |(go_at_call 31;refine(HVC.out _).mono ?_;rintro e w4 ⟨rfl,hd⟩;have HD4:=ah (Zq.out.trans (hd.mono Zq.out.size));clear hd))
                      exact HE.out _ (HB.out.trans ((HD.out.trans (HD4.out.mono HD.out.size)).mono HB.out.size))
                  · obtain rfl:j=k:=by omega
                    have HS:=ah (HNX.out (by rw [aeB.out];exact OX.out));clear hlt1 HNX aeB OX;go_wp2_with fail
                    go_roundw
                    case rel=>exact⟨j+1,by omega,by go_num,HS,ah (HD.out.trans (HB7.out.mono HD.out.size))⟩
                    case measure=>simp [intOf];omega
              · obtain rfl:k=N5:=by omega
                have HE:=ah (acr.out (RY.out (by have h:=Ap.out;rw [HN5.out]at h;exact h)) _ _ (gW.on HOS.out HB6.out (aj _)) (HB.out.trans (HB6.out.mono HB.out.size)));clear hlt0;go_wp2_with fail
                exact HE.out
open Go.RowKit
open Go.RowKit
attribute [local go_sem ↓ high] nK
def SS(r:Except Nat (List Mp))(w:World)(e:Ending)(w':World):Prop:=match r with
 | .error n=>∃A c,e= .returned (.tuple #[.slice A 0 c,.int .i64 (n:Nat)])/\ Below w.heap.size w w'
 | .ok l=>∃v,e= .returned (.tuple #[v,.int .i64 0])/\ qL w' w.heap.size v l/\ Below w.heap.size w w'
def Yt:Prop:=∀ (x:Cf) (a c:Value) (g:Int) (w:World),Ai w w.heap.size x a c->Aj x->qU x=true->Calls Tryz.prog 56 #[ji x a c,.int .i64 g] w (SS (oh x g) w)
open Go.RowKit
open Go.RowKit
attribute [local go_sem ↓ high] nK
def Yg:Prop:=∀ (x:Cf) (a c:Value) (g:Int) (w:World),Ai w w.heap.size x a c->Aj x->qU x=true->Calls Tryz.prog 53 #[ji x a c,.int .i64 g] w (xP (gU x g) w)
theorem Hq{x:Cf}{g:Int}{t:Gs}(h:nR x g=some t):t∈x.gs:=by
 unfold nR at h
 split at h
 · cases h
 · exact List.mem_of_getElem? h
theorem VP{x:Cf}(g:Int)(hf:qU x=true):(gU x g).length<=1000000:=by
 unfold gU;cases h:nR x g with
 |none=>simp
 |some t=>
  obtain⟨-,-,hfa⟩:=iI hf;have hfew:=jZ (hfa _ (Hq h));simp only;rw [qY,List.length_append,List.length_map,List.length_map];have:=hfew.1;have:=hfew.2.1;omega
theorem bI.row{w:World}{B:Nat}{A:Option Addr}{l:List Sp}(h:bI 2 bQ w B A l):Row w B A l:=fun hne=>by
 obtain⟨a,rfl,hb,hc⟩:=h hne;exact⟨a,rfl,hb,fun j hj=>⟨hc j hj 0 (by decide),hc j hj 1 (by decide)⟩⟩
open Go.RowKit
attribute [local go_sem ↓ high] jo
theorem aiY{Y:World}{p:Nat}{t:TypeId}{b:Bd}{ver:Int}{C D:Value}{s:Nat × Nat}(h:aU Y p t 12 (gu b ver C D s)):∀i,i<3->Y.cell? ((⟨p,7,none⟩:Addr).add i)=some (eX ver C D i):=fun i hi=>by
 rw [lF,h.cell (by omega)];rcases(by omega:i=0∨i=1∨i=2)with rfl|rfl|rfl<;>rfl
theorem Dp{x:Cf}(hb:Aj x)(g:Int):∀s∈gU x g,fit s:=by
 unfold gU;cases h:nR x g with
 |none=>intro s hs;cases hs
 |some t=>
  have ht:=hb.gs t (Hq h);simp only;rw [qY];intro s hs;rcases List.mem_append.1 hs with h|h
  · obtain⟨y,hy,rfl⟩:=List.mem_map.1 h
    have:=ht.wins y hy;exact⟨(dD (dZ this.2.1)).2,(dD (dZ this.2.2.1)).2⟩
  · obtain⟨y,hy,rfl⟩:=List.mem_map.1 h
    have:=ht.dG y hy;exact⟨(dD (dZ this.2.1)).2,(dD (dZ this.2.2)).2⟩
def uU(x:Cf)(g:Nat):Bool:= !iD (gU x g)&&(List.range g).all fun(i:Nat)=>(List.range (gU x g).length).all fun j=> !rU ((gU x g).getD j (0,0)) (gU x i)
theorem VB(x:Cf)(a c:Value)(b:Bd)(p B g:Nat)(s:Nat × Nat)(w:World)(hx:Ai w B x a c)(hB:B<=p)(hb:Aj x)(hf:qU x=true)(hg:g<=20)
  (h:aU w p 75 12 (gu b x.ver a c s)):
  Calls Tryz.prog 29 #[.pointer (some ⟨p,0,none⟩),.int .i64 (g:Int)] w fun e w'=>e= .returned (.tuple #[])/\ aU w' p 75 12 (gu b x.ver a c (aZ (uU x g) 10 g s))/\ Save p w w':=by
 have hBw:B<=w.heap.size:=aA hB (Nat.le_of_lt h.lt);have hpw:p<w.heap.size:=h.lt;have HPH:Hid (∀ (i:Nat) Y,Save p w Y->Calls Tryz.prog 12 #[.agg (vec 3 (eX x.ver a c)),.int .i64 (i:Int)] Y (xP (gU x i) Y)):=ah fun i Y hY=>
  VK x a c (i:Int) Y ((hx.below (hY.below hB hBw)).wide (aA hBw hY.size)) hb hf
 have SI:=ah (fun(i:Nat)=>VP (x:=x) (i:Int) hf);have Vb:=ah (fun(i:Nat)=>Dp hb (i:Int));have HM:Hid (∀is t W,aU W p 75 12 (gu b x.ver a c t)->Calls Tryz.prog 23 #[.pointer (some ⟨p,0,none⟩),.bool is,.int .i64 10,.int .i64 (g:Int)] W fun e w'=>e= .returned (.tuple #[])/\ aU w' p 75 12 (gu b x.ver a c (aZ is 10 g t))/\ Save p W w'):=ah (fun is t W hW=>vM is 10 g p b x.ver a c t W hW);obtain⟨l,hl⟩:=aqx (gU x (g:Int));have hP:uU x g=(!iD l&&(List.range g).all fun(i:Nat)=>(List.range l.length).all fun j=> !rU (l.getD j (0,0)) (gU x i)):=(by rw [hl];rfl);rw [hP];obtain⟨f,hff⟩:∃f:Nat->Nat->Bool,f=fun(i j:Nat)=> !rU (l.getD j (0,0)) (gU x i):=⟨_,rfl⟩;have HFF:Hid (∀i j (hj:j<l.length),f i j= !rU l[j] (gU x i)):=ah fun i j hj=>by rw [hff];simp [List.getD,hj]
 obtain⟨F2,hF2⟩:∃F2:Nat->Bool,F2=fun i=>(List.range l.length).all (f i):=⟨_,rfl⟩;have HF2:Hid (∀i,F2 i=(List.range l.length).all (f i)):=(ah fun i=>by rw [hF2]);have hP2:(!iD l&&(List.range g).all fun(i:Nat)=>(List.range l.length).all fun j=> !rU (l.getD j (0,0)) (gU x i))=(!iD l&&(List.range g).all F2):=(by rw [hF2,hff]);rw [hP2];obtain⟨z,hz⟩:=aqx (iD l);rw [<-hz];have HL1:Hid (l=gU x (g:Int)):=ah hl;have HZ:=ah hz;have HA:=ah h;have HPW:=ah hpw;have HCF:=ah (fun Y t (hY:aU Y p 75 12 (gu b x.ver a c t))=>aiY hY);have HLF:Hid (∀y∈l,fit y):=ah (by rw [hl];exact Vb.out g);have HLL:Hid (l.length<=1000000):=ah (by rw [hl];exact SI.out g);have c7:=HCF.out w s h;clear hx hB hb hf hBw h hl hP hP2 hff hF2 hz hpw;go_enter Tryz.func29,Tryz.ntmps29;go_upto_region 1 with(first
  |((with_reducible refine aqy (.load 31 _) ?_);refine bC rfl 31 _ rfl ⟨p,7,none⟩ rfl _ (aW c7 Tryz.underlying31 rfl dR) ?_)
  |(go_at_call 12;refine(HPH.out g _ (aI _ _)).mono ?_;rw [<-HL1.out];rintro e w1 ⟨v,rfl,ho1,hd1⟩;have HO1:=ah (ak ho1 hd1);clear ho1 hd1))
 obtain⟨A,cap,rfl,hcl,hrow1,-⟩:=HO1.out.1.form;have HR1:=ah hrow1;clear hrow1 c7;have HLR:Hid (∀Y,Save p w1 Y->bI 2 bQ Y Y.heap.size A l):=ah fun Y hY=>by
  obtain⟨A',c',e,-,hr,-⟩:=(HO1.out.1.save hY HPW.out).form;injection e with e1 e2 e3
  subst e1;exact hr
 have Z8:=ah (QI A cap l HLL.out HLF.out w1 HR1.out.row);have HA1:Hid (aU w1 p 75 12 (gu b x.ver a c s)):=ah (HA.out.under HO1.out.2);obtain⟨N,hN⟩:=aqx (l.length);have HN:=ah hN;rw [<-hN]at Z8⊢;have hNb:N<=1000000:=(by rw [hN];exact HLL.out);clear hN hcl HA;go_upto_region 2 with(go_at_call 65;refine Z8.out.mono ?_;rintro e w2 ⟨fi,fj,fb,rfl,hfi,hd2⟩;have HFR:=ah (ak hfi hd2);clear hfi hd2)
 obtain rfl:fb=z:=(DZ HFR.out.1).trans HZ.out.symm;have HA2:=ah (ak (HA1.out.under HFR.out.2) (aH (g:=p) HFR.out.2));go_upto_region 3 with(go_at_call 23;refine(HM.out _ _ _ HA2.out.1).mono ?_;rintro e w3 ⟨rfl,ha3,hs3⟩;have wz:=ah (ak ha3 (HA2.out.2.trans hs3));clear ha3 hs3)
 clear HA2 HA1;go_wp2_with fail
 go_loopw [8] (fun v W=>∃i:Nat,i<=g/\ v= .int .i64 i/\ Hid (aU W p 75 12 (gu b x.ver a c (aZ (!fb&&(List.range i).all F2) 10 g s))/\ Save p w1 W)) (fun v _=>g-(intOf v).toNat)
 case atStart=>exact⟨0,aB _,rfl,by simpa using wz⟩
 case round=>
  clear wz;obtain⟨i,hi,rfl,HR⟩:=hrel;by_cases hlt:i<g
  · have hig:(i:Int)< (g:Int):=by omega
    obtain⟨A0,hA0⟩:=aqx ((!fb&&(List.range i).all F2));have Oo:=ah hA0;rw [<-hA0]at HR;clear hA0;go_wp2_with fail
    go_loopw [35] (fun v W=>∃j:Nat,j<=N/\ v= .int .i64 j/\ Hid (aU W p 75 12 (gu b x.ver a c (aZ (A0&&(List.range j).all (f i)) 10 g s))/\ Save p w1 W)) (fun v _=>N-(intOf v).toNat)
    case atStart=>exact⟨0,aB _,rfl,by simpa using HR⟩
    case round=>
     clear HR;obtain⟨j,hj,rfl,HR⟩:=hrel;obtain⟨W,hW⟩:=aqx wr;subst hW;by_cases hlt2:j<N
     · have hjl:j<l.length:=by have:=HN.out;omega
       obtain⟨b0,q,ea,hq,-,hcp⟩:=(HLR.out W HR.out.2).at hjl;have aeC:=HFF.out i j hjl;obtain⟨y,hy⟩:=aqx (l[j]);rw [<-hy]at hcp aeC;have HYF:Hid (fit y):=ah (by rw [hy];exact HLF.out _ (ay hjl));have hji:(j:Int)< (N:Int):=(by omega);obtain⟨t,ht⟩:=aqx (W.heap.size);obtain⟨X,hX⟩:=aqx ((W.alloc (.cells (vec 2 (bQ (0,0))) 24)).setRow W.heap.size (vec 2 (bQ y)));have bx:Below W.heap.size W X:=(by rw [hX];exact bg ((aC _ _).alloc (aj _) _) (aj _) _);have at1:aU X t 24 2 (bQ y):=(by rw [hX,ht];exact(aU.new W _ _ _).row _);have HTP:Hid (t≠p):=ah (by have:=HR.out.1.lt;omega);have mY:Hid (Save p w1 X):=ah (HR.out.2.trans (aH bx));have HSW:Hid (Save p w X.drew):=ah (show Save p w X.drew from((aH (g:=p) HO1.out.2).trans mY.out).drewN 1);have ou:Hid (aU X.drew p 75 12 (gu b x.ver a c (aZ (A0&&(List.range j).all (f i)) 10 g s))):=ah (show aU X p 75 12 (gu b x.ver a c (aZ (A0&&(List.range j).all (f i)) 10 g s))from HR.out.1.under bx);have HAT:Hid (aU X.drew t 24 2 (bQ y)):=ah at1;have gI:=ah hcp;have HXX:=ah hX;have HTT:=ah ht;have ai1:=ah aeC;obtain⟨k,hk⟩:=aqx (gU x (i:Int));have HKP:Hid (∀Y,Save p w Y->Calls Tryz.prog 12 #[.agg (vec 3 (eX x.ver a c)),.int .i64 (i:Int)] Y (xP k Y)):=ah (by rw [hk];exact HPH.out i);have HKL:Hid (k.length<=1000000/\ ∀y∈k,fit y):=ah (by rw [hk];exact⟨SI.out i,Vb.out i⟩);rw [<-hk]at ai1;subst ea;clear hcp aeC hy ht hX bx at1 hk hjl;go_upto_region 9 with(first
        |((with_reducible refine aqy (.load _ _) ?_);refine bC rfl 24 _ rfl q rfl _ (aW gI.out Tryz.underlying24 rfl bZ) ?_)
        |((with_reducible refine aqy (.store _ _ _) ?_);refine bD rfl 24 _ _ rfl _ rfl _ rfl (aS (aU.new W _ _ _) (bQ y) bZ (kP _ _)) ?_))
       rw [<-HXX.out, <-HTT.out];clear HXX gI HTT;refine wp_region_held_drew (S:=fun Y=>(∃q5,aU Y p 75 12 (gu b x.ver a c q5))/\ aU Y t 24 2 (bQ y)) (by kernel_rfl) ⟨⟨_,ou.out⟩,HAT.out⟩ (fun hS=> ?_);refine tA 0 ?_;refine tP 1 (v:= .agg (vec 2 (bQ y))) (hy:=by(intro W hW;exact bF 24 _ rfl t rfl _ (aQ hW.2 Tryz.underlying24 rfl bZ))) ?_;refine tA 2 ?_;refine tP 3 ?_;refine tP 4 ?_;refine tP 5 (v:= .agg (vec 3 (eX x.ver a c))) (hy:=by(intro W hW;obtain⟨q5,hq5⟩:=hW.1;exact dI 31 _ rfl ⟨p,7,none⟩ (by first|rfl|(simp;done)) _ (aW (HCF.out W q5 hq5) Tryz.underlying31 rfl dR))) ?_;refine tA 6 ?_;refine tA 10 ?_;refine oQ 7 fun K7 hK7=> ?_;go_simp;refine(HKP.out _ HSW.out).mono ?_;rintro e y7 ⟨v7,rfl,ho7,hd7⟩;obtain⟨A7,c7,rfl,-,FB,-⟩:=ho7.form;have V8:=ah (ak (ou.out.under hd7) (ak FB (aH (g:=p) hd7)));refine hK7 _ _ ⟨⟨_,V8.out.1⟩,HAT.out.under hd7⟩ (fun hS7=> ?_);have HT7:=ah hS7.2;clear hd7 ho7 FB hK7 K7;refine oQ 8 fun K8 hK8=> ?_;go_simp;refine(KH y HYF.out k HKL.out.1 HKL.out.2 A7 c7 _ V8.out.2.1).mono ?_;rintro e y8 ⟨rfl,hd8⟩;have RS:=ah (ak (V8.out.1.under hd8) (V8.out.2.2.trans (aH (g:=p) hd8)));refine hK8 _ _ ⟨⟨_,RS.out.1⟩,HT7.out.under hd8⟩ (fun qw=> ?_);have HT8:=ah qw.2;clear hd8 hK8 K8;refine tA 9 ?_;refine oQ 11 fun nN dN=> ?_;go_simp;refine(HM.out _ _ _ RS.out.1).mono ?_;rintro e jq ⟨rfl,ha,hs⟩;have bT:Hid (aU jq p 75 12 (gu b x.ver a c (aZ (!rU y k) 10 g (aZ (A0&&(List.range j).all (f i)) 10 g s)))/\ Save p X jq):=ah ⟨ha,by have h:=RS.out.2.trans hs;exact⟨h.os,h.tape,h.output,h.size,h.block⟩⟩;refine dN _ _ ⟨⟨_,ha⟩,HT8.out.save hs HTP.out⟩ (fun dB=> ?_);clear ha hs dN nN;refine wpAnyH_done (by kernel_rfl) ?_ _;rw [dP _ _ _ _ (by decide)]at bT;go_wp2_with fail
       go_roundw
       case rel=>exact⟨j+1,by omega,by go_num,ah ⟨by rw [bn, <-Bool.and_assoc,ai1.out];exact bT.out.1,mY.out.trans bT.out.2⟩⟩
       case measure=>simp [intOf];omega
     · obtain rfl:j=N:=by omega
       have HE:Hid (aU W p 75 12 (gu b x.ver a c (aZ (!fb&&(List.range (i+1)).all F2) 10 g s))):=ah (by rw [bn, <-Bool.and_assoc, <-Oo.out,HF2.out, <-HN.out];exact HR.out.1);go_wp2_with fail
       go_roundw
       case rel=>exact⟨i+1,by omega,by go_num,ah ⟨HE.out,HR.out.2⟩⟩
       case measure=>simp [intOf];omega
  · obtain rfl:i=g:=by omega
    go_wp2_with fail
    go_end0;exact⟨rfl,HR.out.1,(aH (g:=p) HO1.out.2).trans HR.out.2⟩
open Go.RowKit
def qo(y:Wi):Sp:=(y.fZ.toNat,y.size.toNat)
def xO(b:Bd)(y:Wi):Bool:=uK y.fZ y.size&&(eG (xg y)&&(decide (y.perm≠0)&&(within (xg y) b.r&& !overlap (xg y) b.l)))
def vG(b:Bd)(y:De):Bool:=uK y.fZ y.size&&(uK y.pa y.size&& !overlap (BU y) b.r)
def xk(n:Int)(k:Nat):Bool:=decide (n/2^k% 2=1)
def oI(t:Gs):Bool:=match t.wins with
 | []=>false
 |y::_=>decide (t.entry% 4=0)&&(has (qo y) t.entry.toNat&&(xk y.perm 0&&xk y.perm 2))
def qp(t:Gs)(y:Wi):Bool:=has (qo y) t.Ac.toNat&&(decide (16384<=y.size.toNat-(t.Ac.toNat-y.fZ.toNat))&&xk y.perm 0)
def rV(t:Gs):Bool:=decide (t.Ac=0)||((t.wins.drop 1).any (qp t)&&decide (t.Ac% 4096=0))
def wE(b:Bd)(x:Cf)(g:Nat)(s:Nat × Nat):Nat × Nat:=match x.gs[g]? with
 |none=>s
 |some t=>aZ (rV t) 7 g (aZ (oI t) 6 g (aZ (t.dG.all (vG b)) 5 g (aZ (t.wins.all (xO b)) 4 g s)))
def Oz(b:Bd)(t:Gs)(q:Ir):Bool:=decide (32<=q.number)&&(decide (q.number<b.cO)&&(decide (0<=q.cpu)&&(decide (q.cpu<=31)&&xk t.gX q.cpu.toNat)))
def yU{α:Type}[BEq α](ls:List (List α))(g i:Nat)(v:α):Bool:=(List.range (g+1)).all fun k=>(List.range (ls.getD k []).length).all fun j=>(decide (k=g)&&decide (i<=j))|| !((ls.getD k [])[j]?==some v)
def yX(b:Bd)(x:Cf)(g:Nat)(t:Gs):Bool:=(List.range t.cO.length).all fun i=>match t.cO[i]? with
 |none=>true
 |some q=>Oz b t q&&yU (x.gs.map fun u=>u.cO.map Ir.number) g i q.number
def Ba(b:Bd)(x:Cf)(g:Nat)(t:Gs):Bool:=(List.range t.strs.length).all fun i=>match t.strs[i]? with
 |none=>true
 |some q=>decide (q<b.strs)&&yU (x.gs.map Gs.strs) g i q
def wC(b:Bd)(x:Cf)(g:Nat)(s:Nat × Nat):Nat × Nat:=match x.gs[g]? with
 |none=>s
 |some t=>aZ (Ba b x g t) 9 g (aZ (yX b x g t) 8 g s)
def tZ(b:Bd)(x:Cf)(k:Nat)(y:Ch):Bool:=(eG (J4 y)&&(within (J4 y) b.r&& !overlap (J4 y) b.l))&&((x.gs.all fun t=>t.wins.all fun v=> !overlap (J4 y) (xg v))&&(x.dH.take k).all fun u=> !overlap (J4 y) (J4 u))
def rQ(x:Cf)(y:Ch)(e:En):Bool:=decide (0<=e.bK)&&(decide (e.bK< (x.gs.length:Int))&&(decide (1<=e.perm)&&(decide (e.perm<=3)&&uK e.fZ y.size)))
def kR(b:Bd)(x:Cf)(k:Nat)(s:Nat × Nat):Nat × Nat:=match x.dH[k]? with
 |none=>s
 |some y=>aZ (decide (y.a.bK≠y.b.bK)&&(rQ x y y.a&&rQ x y y.b)) 12 k (aZ (tZ b x k y) 11 k s)
def sH(b:Bd):Bool:=Gu b.r.1 b.r.2 b.l.1 b.l.2 b.cO b.strs b.gX==0
def nameB(x:Cf)(i:Nat):Bool:=(List.range i).all fun k=> !Qv (x.gs.getD i vw.g).name (x.gs.getD k vw.g).name
def qh(x:Cf)(g:Nat):Bool:=match oh x (g:Int)with
 | .ok _=>true
 | .error _=>false
def iZ(b:Bd)(x:Cf)(g:Nat)(s:Nat × Nat):Nat × Nat:=aZ (uU x g) 10 g (wC b x g (wE b x g (aZ (AY b x g) 3 g s)))
def upto(n:Nat)(f:Nat->Nat × Nat->Nat × Nat)(s:Nat × Nat):Nat × Nat:=(List.range n).foldl (fun s i=>f i s) s
theorem upto_succ(n:Nat)(f:Nat->Nat × Nat->Nat × Nat)(s:Nat × Nat):upto (n+1) f s=f n (upto n f s):=by unfold upto;rw [List.range_succ,List.foldl_append];rfl
def mO(b:Bd)(x:Cf):Nat × Nat:=aZ (decide (lT x=0)) 2 0 (aZ (sH b) 1 0 (0,0))
def qB(b:Bd)(x:Cf):Nat × Nat:=upto x.gs.length (fun g=>aZ (qh x g) 13 g) (upto x.dH.length (kR b x) (upto x.gs.length (iZ b x) (upto x.gs.length (fun i=>aZ (nameB x i) 2 i) (mO b x))))
def lU(b:Bd)(x:Cf):Nat × Nat × Nat:=if(mO b x).1≠0 then((mO b x).1,(mO b x).2,170)else if(qB b x).1≠0 then((qB b x).1,(qB b x).2,170)else(0,0,0)
def Zr(f:Nat)(P:Bd->Cf->Nat->Nat × Nat->Nat × Nat)(n:Cf->Nat):Prop:=∀ (x:Cf) (a c:Value) (b:Bd) (p B g:Nat) (s:Nat × Nat) (w:World),g<n x->uw w B x a c->B<=p->Aj x->qU x=true->fit b.r->fit b.l->sH b=true->lT x=0->
 aU w p 75 12 (gu b x.ver a c s)->
 Calls Tryz.prog f #[.pointer (some ⟨p,0,none⟩),.int .i64 (g:Int)] w fun e w'=>e= .returned (.tuple #[])/\ aU w' p 75 12 (gu b x.ver a c (P b x g s))/\ Save p w w'
def YP:Prop:=Zr 27 wE (fun x=>x.gs.length)
def Y2:Prop:=Zr 28 wC (fun x=>x.gs.length)
def acj:Prop:=Zr 30 kR (fun x=>x.dH.length)
theorem VA{b:Bd}(h:sH b=true):0<=b.gX/\ b.gX<=32:=by
 unfold sH Gu at h;simp only [beq_iff_eq]at h
 split at h
 · rename_i hc
   simp only [wS,Bool.and_eq_true,decide_eq_true_eq]at hc;omega
 · cases h
open Go.RowKit
theorem jK{is:Bool}{r k:Nat}{s:Nat × Nat}(hr:r≠0)(h:(aZ is r k s).1=0):is=true/\ s.1=0:=by
 unfold aZ at h;cases is with
 |true=>simpa using h
 |false=>
  by_cases hs:s.1=0
  · simp [hs]at h;exact absurd h hr
  · simp [hs]at h
theorem vH{f:Nat->Nat × Nat->Nat × Nat}{P:Nat->Prop}(hf:∀i s,(f i s).1=0->s.1=0/\ P i):∀ (n:Nat) (s:Nat × Nat),(upto n f s).1=0->s.1=0/\ ∀i,i<n->P i
 |0,s,h=>⟨h,fun i hi=>by omega⟩
 |n+1,s,h=>by
  rw [upto_succ]at h;obtain⟨h1,h2⟩:=hf n _ h;obtain⟨h3,h4⟩:=vH hf n s h1;exact⟨h3,fun i hi=>by
   rcases Nat.lt_or_ge i n with h|h
   · exact h4 i h
   · obtain rfl:i=n:=by omega
     exact h2⟩
structure Bh(b:Bd)(x:Cf)(g:Nat)(t:Gs):Prop where
 gX:AY b x g=true
 wins:t.wins.all (xO b)=true
 dG:t.dG.all (vG b)=true
 entry:oI t=true
 Ac:rV t=true
 cO:yX b x g t=true
 strs:Ba b x g t=true
 owned:uU x g=true
structure Qm(b:Bd)(x:Cf)(k:Nat)(y:Ch):Prop where
 chan:tZ b x k y=true
 unlike:y.a.bK≠y.b.bK
 alP:rQ x y y.a=true
 alQ:rQ x y y.b=true
structure SC(b:Bd)(x:Cf):Prop where
 fit:sH b=true
 err:lT x=0
 names:∀i,i<x.gs.length->nameB x i=true
 XQ:∀ (g:Nat) (hg:g<x.gs.length),Bh b x g x.gs[g]
 chans:∀ (k:Nat) (hk:k<x.dH.length),Qm b x k x.dH[k]
 maps:∀g,g<x.gs.length->qh x g=true
theorem Gn{b:Bd}{x:Cf}{g:Nat}{s:Nat × Nat}(h:(iZ b x g s).1=0):s.1=0/\ ∀ (hg:g<x.gs.length),Bh b x g x.gs[g]:=by
 unfold iZ at h;obtain⟨h10,h⟩:=jK (by decide) h;by_cases hg:g<x.gs.length
 · unfold wC wE at h
   rw [aF hg]at h;simp only at h;obtain⟨h9,h⟩:=jK (by decide) h;obtain⟨h8,h⟩:=jK (by decide) h;obtain⟨h7,h⟩:=jK (by decide) h;obtain⟨h6,h⟩:=jK (by decide) h;obtain⟨h5,h⟩:=jK (by decide) h;obtain⟨h4,h⟩:=jK (by decide) h;obtain⟨h3,h⟩:=jK (by decide) h;exact⟨h,fun _=>⟨h3,h4,h5,h6,h7,h8,h9,h10⟩⟩
 · unfold wC wE at h
   rw [List.getElem?_eq_none (by omega)]at h;simp only at h;exact⟨(jK (by decide) h).2,fun h=>absurd h hg⟩
theorem Vk{b:Bd}{x:Cf}{k:Nat}{s:Nat × Nat}(h:(kR b x k s).1=0):s.1=0/\ ∀ (hk:k<x.dH.length),Qm b x k x.dH[k]:=by
 unfold kR at h;by_cases hk:k<x.dH.length
 · rw [aF hk]at h
   simp only at h;obtain⟨h12,h⟩:=jK (by decide) h;obtain⟨h11,h⟩:=jK (by decide) h;simp only [Bool.and_eq_true,decide_eq_true_eq]at h12;exact⟨h,fun _=>⟨h11,h12.1,h12.2.1,h12.2.2⟩⟩
 · rw [List.getElem?_eq_none (by omega)]at h
   exact⟨h,fun h=>absurd h hk⟩
theorem BN{f:Nat->Nat × Nat->Nat × Nat}{s:Nat × Nat}:∀ (n:Nat),(∀i,i<n->f i s=s)->upto n f s=s
 |0,_=>rfl
 |n+1,h=>by rw [upto_succ,BN n fun i hi=>h i (by omega)];exact h n (by omega)
theorem kS{is:Bool}{r k:Nat}{s:Nat × Nat}(h:is=true):aZ is r k s=s:=by rw [h];exact eP r k s
theorem UF{b:Bd}{x:Cf}(h:SC b x):lU b x=(0,0,0):=by
 have hd:mO b x=(0,0):=(by unfold mO;rw [kS (decide_eq_true h.err),kS h.fit]);have hbo:qB b x=(0,0):=by
  have e1:upto x.gs.length (fun i=>aZ (nameB x i) 2 i) (0,0)=(0,0):=(BN _ fun i hi=>kS (h.names i hi));have e2:upto x.gs.length (iZ b x) (0,0)=(0,0):=BN _ fun g hg=>by
   have hc:=h.XQ g hg;unfold iZ wC wE;rw [aF hg];simp only;rw [kS hc.gX,kS hc.wins,kS hc.dG,kS hc.entry,kS hc.Ac,kS hc.cO,kS hc.strs,kS hc.owned]
  have e3:upto x.dH.length (kR b x) (0,0)=(0,0):=BN _ fun k hk=>by
   have hc:=h.chans k hk;unfold kR;rw [aF hk];simp only;rw [kS hc.chan,kS (by rw [decide_eq_true hc.unlike,hc.alP,hc.alQ];rfl)]
  have e4:upto x.gs.length (fun g=>aZ (qh x g) 13 g) (0,0)=(0,0):=(BN _ fun g hg=>kS (h.maps g hg));unfold qB;rw [hd,e1,e2,e3,e4]
 unfold lU;rw [hd,hbo]
 rfl
open Go.RowKit
theorem Qc{s l r:Sp}(h:overlap s l=true)(hw:within l r=true):overlap s r=true:=by
 rw [jd]at h⊢;unfold within at hw;simp only [Bool.and_eq_true,decide_eq_true_eq]at hw;exact⟨h.1,hw.2.1,by omega,by omega⟩
theorem pF(s l:Sp):overlap s l=overlap l s:=by
 rw [Bool.eq_iff_iff,jd,jd]
 constructor<;>rintro⟨h1,h2,h3,h4⟩<;>exact⟨h2,h1,h4,h3⟩
theorem X7{x:Cf}{g:Nat}(hg:g<x.gs.length){s:Sp}(h:s∈gU x (g:Int)):(∃y∈ (x.gs[g]).wins,s=xg y)∨∃y∈ (x.gs[g]).dG,s=BU y:=by
 unfold gU at h;rw [mJ hg]at h;simp only at h;rw [qY]at h;rcases List.mem_append.1 h with h|h
 · obtain⟨y,hy,rfl⟩:=List.mem_map.1 h
   exact .inl ⟨y,hy,rfl⟩
 · obtain⟨y,hy,rfl⟩:=List.mem_map.1 h
   exact .inr ⟨y,hy,rfl⟩
open Go.RowKit
open Go.RowKit
theorem Hu{α:Type}{e:α->Nat}:∀ {l:List α},dK e l=0->∀x∈l,e x=0
 | [],_,_,hx=>by cases hx
 |y::l,h,x,hx=>by
  unfold dK at h
  split at h
  · rename_i hy
    rcases List.mem_cons.1 hx with rfl|hx
    · exact hy
    · exact Hu h x hx
  · rename_i hy
    exact absurd h hy
theorem zO{x:Cf}(h:lT x=0):∀g∈x.gs,jX g=0:=by
 have hc:vC x=0:=by
   unfold lT at h
   split at h
   · assumption
   · exact h
 unfold vC at hc
 split at hc
 · cases hc
 · split at hc
   · rename_i hl
     exact Hu hl
   · rename_i hl
     exact absurd hc hl
structure acf(g:Gs):Prop where
 cnt:tX g=true
 wins:∀y∈g.wins,jr y=false
 cO:∀y∈g.cO,jv y=false
theorem Qj{g:Gs}(h:jX g=0):acf g:=by
 unfold jX at h
 split at h
 · cases h
 · split at h
   · cases h
   · split at h
     · cases h
     · rename_i hc
       have hb:(g.wins.any jr||g.cO.any jv)=false:=by
         unfold jg at h;cases hb:(g.wins.any jr||g.cO.any jv)with
         |false=>rfl
         |true=>rw [hb]at h;simp at h
       rw [Bool.or_eq_false_iff]at hb;refine⟨by simpa using hc,fun y hy=> ?_,fun y hy=> ?_⟩
       · rw [<-Bool.not_eq_true];exact fun hh=>by rw [List.any_eq_true.2 ⟨y,hy,hh⟩]at hb;cases hb.1
       · rw [<-Bool.not_eq_true];exact fun hh=>by rw [List.any_eq_true.2 ⟨y,hy,hh⟩]at hb;cases hb.2
open Go.RowKit Go.Maps
def kE(b:Bd)(wh:Int)(m1 m2 m3 m4:Nat)(mv:Value):Nat->Value:=fun i=>
 if i<7 then kH b i else if i=7 then .int .i64 wh else if i=8 then .map (some m1)else if i=9 then .map (some m2)else if i=10 then .map (some m3)else if i=11 then .map (some m4)else mv
def tJ(L:List Lit)(k:Lit):Bool:=L.any fun x=>x.sameKey k
def gJ(K:TypeId)(w:World)(m n:Nat)(L:List Lit):Prop:=(∀x∈L,WideAt.IsKeyLit x)/\ w.ownsMap Tryz.prog K (unitElem (H:=Unit)) m n (setOf (.agg []) L)
theorem Save.Hz{g:Nat}{w w':World}(h:w.grownBy w' (some g)):Save g w w':=⟨h.os,h.tape,h.output,h.size,fun k hk hg=>h.block k hk (by simpa using hg)⟩
theorem gJ.kept{K:TypeId}{w w':World}{m n:Nat}{L:List Lit}(h:gJ K w m n L){row:Option Nat}(hg:w.grownBy w' row)(hne:some m≠row):gJ K w' m n L:=⟨h.1,h.2.kept hg hne⟩
theorem QU{g:Nat}{w w':World}(h:Save g w w'):w.grownBy w' (some g):=⟨h.os,h.tape,h.output,h.size,fun k hk hg=>h.block k hk (by simpa using hg)⟩
theorem gJ.save{K:TypeId}{w w':World}{m n g:Nat}{L:List Lit}(h:gJ K w m n L)(hg:Save g w w')(hne:m≠g):gJ K w' m n L:=h.kept (QU hg) (by simpa using hne)
theorem grown_below{w w':World}(h:Below w.heap.size w w'):w.grownBy w' none:=⟨h.1,h.2,h.3,h.4,fun k hk _=>h.5 k hk⟩
theorem gJ.under{K:TypeId}{w w':World}{m n:Nat}{L:List Lit}(h:gJ K w m n L)(hg:Below w.heap.size w w'):gJ K w' m n L:=h.kept (grown_below hg) (by simp)
theorem gJ.lt{K:TypeId}{w:World}{m n:Nat}{L:List Lit}(h:gJ K w m n L):m<w.heap.size:=h.2.lt
theorem gJ.wide{K:TypeId}{w:World}{m n n':Nat}{L:List Lit}(h:gJ K w m n L)(hn:n<=n'):gJ K w m n' L:=⟨h.1,h.2.mono hn⟩
theorem gJ.drewN{K:TypeId}{w:World}{m n:Nat}{L:List Lit}(h:gJ K w m n L)(k:Nat):gJ K (w.drewN k) m n L:=h
theorem gJ.has{K:TypeId}{w:World}{m n:Nat}{L:List Lit}(h:gJ K w m n L)(k:Lit):Maps.has (setOf (H:=Unit) (.agg []) L) k=tJ L k:=has_setOf _ _ _ h.1
theorem gJ.begin(K:TypeId)(w:World):gJ K (w.alloc (.map #[] 0)) w.heap.size 0 []:=⟨fun x hx=>(by cases hx),World.ownsMap_made _ _ _ _⟩
theorem gJ.far{K:TypeId}{w:World}{m n:Nat}{L:List Lit}(h:gJ K w m n L){a:Addr}(ha:m≠a.block)(u:Value):gJ K (w.setCell a u) m n L:=⟨h.1,h.2.setCell ha u⟩
theorem Zt(w:World):(zeroValue 134).run Tryz.prog w= .ok (.agg #[]) w:=by kernel_rfl
def Bj(r k:Nat):Value:= .iface 69 (.agg #[.int .i64 (r:Int),.int .i64 (k:Int)])
def AP(r k:Nat):List PanicEntry:=[{ v:=Bj r k,recovered:=false }]
theorem Zu:Keyed Tryz.prog 3:=int_keyed Tryz.underlying3
theorem L9(m n:Nat)(L:List Lit)(v:Int)(hv:(Lit.int .i64 v).wf=true)(w:World)(h:gJ 3 w m n L)(hn:n<=1000000):
  Calls Tryz.prog 75 #[.map (some m),.int .i64 v] w fun e w'=>e= .returned (.bool (!tJ L (Lit.int .i64 v)))/\ gJ 3 w' m (n+1) (L++ [Lit.int .i64 v])/\ Save m w w':=by
 have hkey:keyOf Tryz.prog 3 (.int .i64 v)=some (Lit.int .i64 v):=keyOf_int_mk Tryz.underlying3 hv;have hlt:=h.lt;have HQ:Hid (∀w1 w2:World,w1=w.alloc (.cells #[] 134)->w2.ownsMap Tryz.prog 3 (unitElem (H:=Unit)) m (n+1) ((setOf (.agg []) L).put (Lit.int .i64 v) (.agg []))->w1.grownBy w2 (some m)->gJ 3 w2 m (n+1) (L++ [Lit.int .i64 v])/\ Save m w w2):=ah fun w1 w2 e ho hg=>by
  subst e;refine⟨⟨fun x hx=> ?_,by rw [setOf_snoc];exact ho⟩,(aH ((aC _ _).alloc (aj _) _)).trans (Save.Hz hg)⟩;rcases List.mem_append.1 hx with hx|hx
  · exact h.1 x hx
  · rw [List.mem_singleton.1 hx];exact trivial
 have HH:Hid (Maps.has (setOf (H:=Unit) (.agg []) L) (Lit.int .i64 v)=tJ L (Lit.int .i64 v)):=ah (h.has _);obtain⟨z,hz⟩:=aqx (tJ L (Lit.int .i64 v));rw [<-hz]at HH⊢;have hown:=h.2;obtain⟨D,hD⟩:∃D,D=setOf (H:=Unit) (.agg []) L:=⟨_,rfl⟩;rw [<-hD]at hown HH HQ;clear h hz hD;go_enter Tryz.func75,Tryz.ntmps75;go_wp2_with(first
  |(at_lookup;refine wpList_lookup_own_unit _ rfl _ _ 94 rfl 3 134 Zu Tryz.underlying94 (Zt _) m n _ rfl hown _ _ rfl hkey ?_;rw [HH.out])
  |(at_mapUpdate;refine wpList_mapUpdate_own _ rfl _ _ _ 94 rfl 3 134 Zu Tryz.underlying94 (unitElem (H:=Unit)) m n _ rfl (hown.alloc _) (by unfold maxLen;omega) _ _ _ rfl rfl hkey _ [] unitElem_mk ?_;intro w1 hown1 hgrow1))
 go_ret;exact⟨rfl,HQ.out _ _ rfl hown1 hgrow1⟩
theorem Zv:Keyed Tryz.prog 27:=int_keyed Tryz.underlying27
theorem Xj(m n:Nat)(L:List Lit)(v:Int)(hv:(Lit.int .u32 v).wf=true)(w:World)(h:gJ 27 w m n L)(hn:n<=1000000):
  Calls Tryz.prog 91 #[.map (some m),.int .u32 v] w fun e w'=>e= .returned (.bool (!tJ L (Lit.int .u32 v)))/\ gJ 27 w' m (n+1) (L++ [Lit.int .u32 v])/\ Save m w w':=by
 have hkey:keyOf Tryz.prog 27 (.int .u32 v)=some (Lit.int .u32 v):=keyOf_int_mk Tryz.underlying27 hv;have hlt:=h.lt;have HQ:Hid (∀w1 w2:World,w1=w.alloc (.cells #[] 134)->w2.ownsMap Tryz.prog 27 (unitElem (H:=Unit)) m (n+1) ((setOf (.agg []) L).put (Lit.int .u32 v) (.agg []))->w1.grownBy w2 (some m)->gJ 27 w2 m (n+1) (L++ [Lit.int .u32 v])/\ Save m w w2):=ah fun w1 w2 e ho hg=>by
  subst e;refine⟨⟨fun x hx=> ?_,by rw [setOf_snoc];exact ho⟩,(aH ((aC _ _).alloc (aj _) _)).trans (Save.Hz hg)⟩;rcases List.mem_append.1 hx with hx|hx
  · exact h.1 x hx
  · rw [List.mem_singleton.1 hx];exact trivial
 have HH:Hid (Maps.has (setOf (H:=Unit) (.agg []) L) (Lit.int .u32 v)=tJ L (Lit.int .u32 v)):=ah (h.has _);obtain⟨z,hz⟩:=aqx (tJ L (Lit.int .u32 v));rw [<-hz]at HH⊢;have hown:=h.2;obtain⟨D,hD⟩:∃D,D=setOf (H:=Unit) (.agg []) L:=⟨_,rfl⟩;rw [<-hD]at hown HH HQ;clear h hz hD;go_enter Tryz.func91,Tryz.ntmps91;go_wp2_with(first
  |(at_lookup;refine wpList_lookup_own_unit _ rfl _ _ 96 rfl 27 134 Zv Tryz.underlying96 (Zt _) m n _ rfl hown _ _ rfl hkey ?_;rw [HH.out])
  |(at_mapUpdate;refine wpList_mapUpdate_own _ rfl _ _ _ 96 rfl 27 134 Zv Tryz.underlying96 (unitElem (H:=Unit)) m n _ rfl (hown.alloc _) (by unfold maxLen;omega) _ _ _ rfl rfl hkey _ [] unitElem_mk ?_;intro w1 hown1 hgrow1))
 go_ret;exact⟨rfl,HQ.out _ _ rfl hown1 hgrow1⟩
theorem Zw:Keyed Tryz.prog 9:=string_keyed Tryz.underlying9
theorem Yy(m n:Nat)(L:List Lit)(v:ByteArray)(hv:v.size<=maxLen)(w:World)(h:gJ 9 w m n L)(hn:n<=1000000):
  Calls Tryz.prog 39 #[.map (some m),.string v] w fun e w'=>e= .returned (.bool (!tJ L (Lit.string v.data.toList)))/\ gJ 9 w' m (n+1) (L++ [Lit.string v.data.toList])/\ Save m w w':=by
 have hkey:keyOf Tryz.prog 9 (.string v)=some (Lit.string v.data.toList):=WideMaps.keyOf_string_mk Tryz.underlying9 hv;have hlt:=h.lt;have HQ:Hid (∀w1 w2:World,w1=w.alloc (.cells #[] 134)->w2.ownsMap Tryz.prog 9 (unitElem (H:=Unit)) m (n+1) ((setOf (.agg []) L).put (Lit.string v.data.toList) (.agg []))->w1.grownBy w2 (some m)->gJ 9 w2 m (n+1) (L++ [Lit.string v.data.toList])/\ Save m w w2):=ah fun w1 w2 e ho hg=>by
  subst e;refine⟨⟨fun x hx=> ?_,by rw [setOf_snoc];exact ho⟩,(aH ((aC _ _).alloc (aj _) _)).trans (Save.Hz hg)⟩;rcases List.mem_append.1 hx with hx|hx
  · exact h.1 x hx
  · rw [List.mem_singleton.1 hx];exact trivial
 have HH:Hid (Maps.has (setOf (H:=Unit) (.agg []) L) (Lit.string v.data.toList)=tJ L (Lit.string v.data.toList)):=ah (h.has _);obtain⟨z,hz⟩:=aqx (tJ L (Lit.string v.data.toList));rw [<-hz]at HH⊢;have hown:=h.2;obtain⟨D,hD⟩:∃D,D=setOf (H:=Unit) (.agg []) L:=⟨_,rfl⟩;rw [<-hD]at hown HH HQ;clear h hz hD;go_enter Tryz.func39,Tryz.ntmps39;go_wp2_with(first
  |(at_lookup;refine wpList_lookup_own_unit _ rfl _ _ 92 rfl 9 134 Zw Tryz.underlying92 (Zt _) m n _ rfl hown _ _ rfl hkey ?_;rw [HH.out])
  |(at_mapUpdate;refine wpList_mapUpdate_own _ rfl _ _ _ 92 rfl 9 134 Zw Tryz.underlying92 (unitElem (H:=Unit)) m n _ rfl (hown.alloc _) (by unfold maxLen;omega) _ _ _ rfl rfl hkey _ [] unitElem_mk ?_;intro w1 hown1 hgrow1))
 go_ret;exact⟨rfl,HQ.out _ _ rfl hown1 hgrow1⟩
def zG(m n:Int):Bool:=decide (m/2^n.toNat% 2=1)
theorem set_any(m n:Int)(hm:0<=m/\ m<=4294967295)(hn:0<=n/\ n<=65535)(w:World):Calls Tryz.prog 74 #[.int .u32 m,.int .i64 n] w (jc (zG m n) w):=by
 obtain⟨k,rfl⟩:=au hn.1;obtain⟨y,rfl⟩:=au hm.1;have hmin:(y:Int)/2^min k 32=(y:Int)/2^k:=by
  rcases Nat.le_total k 32 with h|h
  · rw [Nat.min_eq_left h]
  · rw [Nat.min_eq_right h]
    have e1:y/2^32=0:=Nat.div_eq_of_lt (by omega);have e2:y/2^k=0:=Nat.div_eq_of_lt (aN (show y<2^32 by omega) (Nat.pow_le_pow_right (by decide) h));have f1:((y/2^32:Nat):Int)=(y:Int)/2^32:=(by norm_cast);have f2:((y/2^k:Nat):Int)=(y:Int)/2^k:=(by norm_cast);rw [<-f1, <-f2,e1,e2]
 obtain⟨q,hq⟩:=aqx (y/2^k);have XY:q<=4294967295:=(by rw [hq];exact aA (Nat.div_le_self _ _) (by omega));have hqi:(y:Int)/2^k=(q:Int):=(by rw [hq];norm_cast);have hand:bits .and .u32 (q:Int) 1=((q% 2:Nat):Int):=by
  rw [show(1:Int)=((1:Nat):Int)from rfl,u32_and_nat q 1 (by omega) (by omega)]
  norm_cast
  simp [Nat.and_one_is_mod]
 have hb:zG (y:Int) (k:Int)=decide (q% 2=1):=by
  unfold zG;rw [show((k:Int)).toNat=k from rfl,hqi];exact Bool.eq_iff_iff.2 (by simp only [decide_eq_true_eq];omega)
 rw [hb];have he:(((q% 2:Nat):Int)==1)=decide (q% 2=1):=Bool.eq_iff_iff.2 (by simp only [beq_iff_eq,decide_eq_true_eq];omega);have hk0:(0:Int)<=(k:Int):=(by omega);have hkb:¬ ((k:Int)<0):=(by omega);clear hq hb hm hn;rw [hqi]at hmin;unfold jc;go_enter Tryz.func74,Tryz.ntmps74;go_wp2
 go_ret;refine⟨congrArg (fun z=>Ending.returned (.bool z)) ?_,aC _ _⟩;exact Bool.eq_iff_iff.2 (by simp;omega)
def rW(p q:Int):Bool:=bits .and .i64 p q==q
theorem zY(p q:Int)(w:World):Calls Tryz.prog 85 #[.int .i64 p,.int .i64 q] w (jc (rW p q) w):=by
 obtain⟨y,hy⟩:=aqx (bits .and .i64 p q);have hz:rW p q=(y==q):=(by rw [hy];rfl);obtain⟨z,hzz⟩:=aqx ((y==q));rw [hz, <-hzz];replace hy:=hy.symm;replace hzz:=hzz.symm;clear hz;unfold jc;go_enter Tryz.func85,Tryz.ntmps85;go_wp2
 go_ret;exact⟨rfl,aC _ _⟩
def ai2(is:Bool)(r k:Nat)(w:World)(e:Ending)(w':World):Prop:=((is=true/\ e= .returned (.tuple #[]))∨(is=false/\ e= .panicked (AP r k)))/\ w=w'
theorem VQ(r:Int)(p:Option Addr)(w:World):Calls Tryz.prog 36 #[.pointer p,.int .i64 r,.bool true] w fun e w'=>e= .returned (.tuple #[])/\ w=w':=by
 go_enter Tryz.func36,Tryz.ntmps36;go_wp2
 go_end0;exact⟨rfl,rfl⟩
theorem Zx(r k p:Nat)(w:World)(c7:w.cell? ⟨p,7,none⟩=some (.int .i64 (k:Int))):Calls Tryz.prog 36 #[.pointer (some ⟨p,0,none⟩),.int .i64 (r:Int),.bool false] w fun e w'=>e= .panicked (AP r k)/\ w=w':=by
 unfold AP Bj;go_enter Tryz.func36,Tryz.ntmps36;go_wp2
 exact⟨rfl,rfl,rfl⟩
theorem jJ(is:Bool)(r k:Nat)(p:Nat)(w:World)(c7:w.cell? ⟨p,7,none⟩=some (.int .i64 (k:Int))):
  Calls Tryz.prog 36 #[.pointer (some ⟨p,0,none⟩),.int .i64 (r:Int),.bool is] w (ai2 is r k w):=by
 cases is with
 |true=>exact(VQ _ _ w).mono fun e w' h=>⟨.inl ⟨rfl,h.1⟩,h.2⟩
 |false=>exact(Zx r k p w c7).mono fun e w' h=>⟨.inr ⟨rfl,h.1⟩,h.2⟩
end Go.Proofs.YtkaipknkjocfiaaGreat
