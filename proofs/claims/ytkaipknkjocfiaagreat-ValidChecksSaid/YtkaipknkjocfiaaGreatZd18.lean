import Derived.Laws.EntriesVeiled
import Derived.Test.YtkaipknkjocfiaaGreatZd17
set_option maxRecDepth 100000
set_option maxHeartbeats 64000000
namespace Go.Proofs.YtkaipknkjocfiaaGreat
open Go.RowKit Go.Shelf
attribute [local go_sem] Oper.semAt_some
attribute [local go_sem ↓ high] nK Fp jo
def wu(y:Rk):Sp:=(y.m.pa.toNat,y.m.size.toNat)
theorem own_ne{α:Type}{n base g:Nat}{t t':TypeId}{enc:α->Nat->Value}{v:Value}{l:List α}{w:World}{cs:Array Value}(ho:gW t n enc w base v l)(hb:w.heap[g]?=some (.cells cs t' (0,0)))(h:t≠t'):some g≠v.ownBlock:=fun e=>by
 rcases ho.2 with⟨rfl,_⟩|⟨k,cap,cur,rfl,_,hg,_⟩
 · simp [Value.ownBlock]at e
 · simp [Value.ownBlock]at e
   subst e;rw [hb]at hg;injection hg with hg
   injection hg with _ hg _
   exact h hg.symm
theorem Bf{B base:Nat}{v:Value}{l:List Sp}{X Y:World}{row:Option Nat}(h:nM X base v l)(hg:X.grownBy Y row)(hr:∀r,row=some r->B<=r/\ ∃o:Obj,X.heap[r]?=some o/\ o.isCells=false):nM Y base v l:=by
 refine⟨h.1, ?_⟩;rcases h.2 with h2|⟨g,cap,cur,rfl,hb,hh,r⟩
 · exact .inl h2
 · exact .inr ⟨g,cap,cur,rfl,hb,uI (cs:=cur) (t:=24) hh hg hr,r⟩
theorem mg.J6{Bl base:Nat}{v:Value}{l:List Sp}{w w':World}(h:mg Bl v w w')(ho:nM w base v l){n:Nat}(h1:n<=Bl)(h2:n<=base)(h3:n<=w.heap.size):Below n w w':=
 ⟨h.os,h.tape,h.output,h.size,fun k hk=>h.block k (by omega) (by omega) fun e=>by obtain⟨_,_,_,_,_,hq⟩:=ho.form;have:=(hq k e.symm).1;omega⟩
theorem mg.knS{Bl base n0 B:Nat}{v u:Value}{l:List Sp}{w w':World}(h:mg Bl v w w')(ho:nM w base v l)(hb:fB w Bl 40 #[u])(h1:n0<=Bl)(h2:n0<=base)(h3:n0<=w.heap.size):KN n0 B w w':=by
 have hown:∀k,some k=v.ownBlock->∃cs fr,w.heap[k]?=some (.cells cs 24 fr):=fun k hk=>by
   rcases ho.2 with⟨rfl,_⟩|⟨g,cap,cur,rfl,_,hg,_⟩
   · simp [Value.ownBlock]at hk
   · simp [Value.ownBlock]at hk
     subst hk;exact⟨_,_,hg⟩
 refine⟨h.size,(h.J6 ho h1 h2 h3).block,fun k cs t fr hk ht=> ?_,fun k o _ hk hc=> ?_⟩
 · refine(h.block k (Array.getElem?_eq_some_iff.1 hk).1 (fun e=> ?_) fun e=> ?_).trans hk
   · subst e
     rw [show w.heap[k]?=_ from hb]at hk;injection hk with hk
     injection hk with _ hk _
     exact ht (by rw [<-hk];unfold Ah;decide)
   · obtain⟨c2,f2,hc⟩:=hown k e
     rw [hc]at hk;injection hk with hk
     injection hk with _ hk _
     exact ht (by rw [<-hk];unfold Ah;decide)
 · refine(h.block k (Array.getElem?_eq_some_iff.1 hk).1 (fun e=> ?_) fun e=> ?_).trans hk
   · subst e
     rw [show w.heap[k]?=_ from hb]at hk;cases hk
     cases hc
   · obtain⟨c2,f2,hcc⟩:=hown k e
     rw [hcc]at hk;cases hk
     cases hc
theorem mg.drew{Bl:Nat}{v:Value}{w w':World}(h:mg Bl v w.drew w'):mg Bl v w w':=⟨h.os,h.tape,h.output,h.size,h.block⟩
theorem SK(x:Cf)(g:Int):gU x g=((fP x g).takeWhile fun y=>decide (y.r≠2)).map wu:=by
 unfold gU fP;cases nR x g with
 |none=>rfl
 |some t=>
  simp only;rw [qY];unfold mQ;rw [<-List.append_assoc,List.takeWhile_append_of_pos]
  · have h:((x.dH.flatMap (sK g)).map rkM).takeWhile (fun y=>decide (y.r≠2))=[]:=by
      cases x.dH.flatMap (sK g)with
      |nil=>rfl
      |cons a l=>rfl
    rw [h,List.append_nil,List.map_append,List.map_map,List.map_map]
    rfl
  · intro y hy
    rcases List.mem_append.1 hy with h|h
    · obtain⟨z,_,rfl⟩:=List.mem_map.1 h;rfl
    · obtain⟨z,_,rfl⟩:=List.mem_map.1 h;rfl
theorem Yc{x:Cf}{g:Int}{ys:List RB}(hS:ys.map Subtype.val=fP x g)(h:∀y∈ys,y.1.r≠2):ys.map (fun y=>wu y.1)=gU x g:=by
 rw [SK, <-hS];have:(ys.map Subtype.val).takeWhile (fun y:Rk=>decide (y.r≠2))=ys.map Subtype.val:=by
  have h1:=List.takeWhile_append_of_pos (p:=fun y:Rk=>decide (y.r≠2)) (l₁:=ys.map Subtype.val) (l₂:=[]) (by
   intro y hy;obtain⟨z,hz,rfl⟩:=List.mem_map.1 hy;exact decide_eq_true (h z hz))
  simpa using h1
 rw [this,List.map_map]
 rfl
theorem Vd{x:Cf}{g:Int}{ys:List RB}{z:RB}(hS:(ys++ [z]).map Subtype.val<+:fP x g)(h:∀y∈ys,y.1.r≠2)(hz:z.1.r=2):ys.map (fun y=>wu y.1)=gU x g:=by
 obtain⟨rest,hr⟩:=hS;rw [SK, <-hr,List.map_append,List.append_assoc,List.takeWhile_append_of_pos]
 · have:((([z]:List RB).map Subtype.val)++rest).takeWhile (fun y:Rk=>decide (y.r≠2))=[]:=by
    show(z.1::rest).takeWhile _=[]
    rw [List.takeWhile_cons_of_neg];rw [hz];decide
   rw [this,List.append_nil,List.map_map]
   rfl
 · intro y hy
   obtain⟨q,hq,rfl⟩:=List.mem_map.1 hy;exact decide_eq_true (h q hq)
structure PhI(w w1:World)(s:Nat)(pre:List RB)(W:World):Prop where
 own:∃v,fB W (s+1) 40 #[v]/\ nM W w1.heap.size v (pre.map fun y=>wu y.1)
 low:∀y∈pre,y.1.r≠2
 bel:Below w.heap.size w W
 kn:KN w.heap.size 0 w1 W
structure PhX(w w1:World)(s:Nat)(cd:Code)(pre:List RB)(W:World):Prop where
 ex:cd= .exit 0
 own:∃ys z v,pre=ys++ [z]/\ (∀y∈ys,y.1.r≠2)/\ z.1.r=2/\ fB W (s+1) 40 #[v]/\ nM W w1.heap.size v (ys.map fun y=>wu y.1)
 bel:Below w.heap.size w W
theorem adG{w w1:World}{s:Nat}(h:w.heap.size<=w1.heap.size):OwnFrom w1.heap.size (PhI w w1 s):=fun pre X Y row hs hg hr=>
 ⟨by obtain⟨v,h1,h2⟩:=hs.own;exact⟨v,uI h1 hg hr,Bf h2 hg hr⟩,hs.low,yu hs.bel h hg hr,Py h (aj _) () X Y row hs.kn hg hr⟩
theorem adH{w w1:World}{s:Nat}(h:w.heap.size<=w1.heap.size)(cd:Code):OwnFrom w1.heap.size (PhX w w1 s cd):=fun _ _ _ _ hs hg hr=>
 ⟨hs.ex,by obtain⟨ys,z,v,h1,h2,h3,h4,h5⟩:=hs.own;exact⟨ys,z,v,h1,h2,h3,uI h4 hg hr,Bf h5 hg hr⟩,yu hs.bel h hg hr⟩
theorem zN{w w1 W y3 w5:World}{s d e4:Nat}{A B4:Option Addr}{pre:List RB}{z:RB}(hbk:∀k,(Value.slice A (pre.map fun y=>wu y.1).length d).ownBlock=some k->w1.heap.size<=k/\ k<W.heap.size)
   (hi:PhI w w1 s pre W) (hz:z.1.r≠2) (hv0:fB W (s+1) 40 #[.slice A (pre.map fun y=>wu y.1).length d]) (ho0:nM W w1.heap.size (.slice A (pre.map fun y=>wu y.1).length d) (pre.map fun y=>wu y.1))
   (hd:mg (s+1) (.slice A (pre.map fun y=>wu y.1).length d) W y3) (hv5:fB w5 (s+1) 40 #[.slice A (pre.map fun y=>wu y.1).length d])
   (ho5:nM w5 w1.heap.size (.slice B4 ((pre.map fun y=>wu y.1).length+1) e4) ((pre.map fun y=>wu y.1)++ [wu z.1])) (hb5:Below w1.heap.size y3 w5) (hs5:y3.heap.size<=w5.heap.size)
   (hk5:∀k,k<y3.heap.size->some k≠(Value.slice A (pre.map fun y=>wu y.1).length d).ownBlock->w5.heap[k]?=y3.heap[k]?)
   (hn5:(Value.slice B4 ((pre.map fun y=>wu y.1).length+1) e4).ownBlock=(Value.slice A (pre.map fun y=>wu y.1).length d).ownBlock∨(Value.slice B4 ((pre.map fun y=>wu y.1).length+1) e4).ownBlock=some (y3.heap.size+1))
   (hz1:w1.heap.size=s+4) (hsw:w.heap.size=s) (hzz:w1.heap.size<=W.heap.size):
   KeepsFrom w1.heap.size W (w5.setCell ⟨s+1,0,none⟩ (.slice B4 ((pre.map fun y=>wu y.1).length+1) e4))/\ KN w.heap.size (w1.heap.size+2) W (w5.setCell ⟨s+1,0,none⟩ (.slice B4 ((pre.map fun y=>wu y.1).length+1) e4))/\
     PhI w w1 s (pre++ [z]) (w5.setCell ⟨s+1,0,none⟩ (.slice B4 ((pre.map fun y=>wu y.1).length+1) e4)):=by
 have hpf:mg (s+1) (.slice A (pre.map fun y=>wu y.1).length d) W (w5.setCell ⟨s+1,0,none⟩ (.slice B4 ((pre.map fun y=>wu y.1).length+1) e4)):=by
   refine⟨hb5.os.trans hd.os,hb5.tape.trans hd.tape,hb5.output.trans hd.output,aA hd.size (by simpa using hs5),fun k hk h1 h2=> ?_⟩;rw [Below.heap_setCell w5 ⟨s+1,0,none⟩ _ k (by first|exact h1|exact fun e=>h1 e.symm),hk5 k (aN hk hd.size) h2,hd.block k hk h1 h2]
 have Z':KN w.heap.size 0 W (w5.setCell ⟨s+1,0,none⟩ (.slice B4 ((pre.map fun y=>wu y.1).length+1) e4)):=hpf.knS ho0 hv0 (by omega) (by omega) (by omega);refine⟨oz Z'.from (aB _),Z'.up (aB _),⟨_,hv5.set 0 _, ?_⟩,fun y hy=> ?_, ?_,hi.kn.trans Z'⟩
 · rw [List.map_append]
   refine ho5.grown (o:=some (s+1)) (fun k _ h2=>Below.heap_setCell w5 ⟨s+1,0,none⟩ _ k fun e=>h2 (by simp only at e;rw [e])) ?_;rcases hn5 with h|h
   · rw [h]
     refine .inr fun e=> ?_;have:=(hbk _ e).1;omega
   · rw [h]
     refine .inr fun e=> ?_;have:=Option.some.inj e;have:=hd.size;omega
 · rcases List.mem_append.1 hy with hy|hy
   · exact hi.low y hy
   · obtain rfl:=List.mem_singleton.1 hy
     exact hz
 · exact hi.bel.trans (hpf.J6 ho0 (by omega) (by omega) (by omega))
theorem Ve(x:Cf)(a c:Value)(g:Int)(w:World)(hx:Ai w w.heap.size x a c)(hb:Aj x)(hf:qU x=true):Calls Tryz.prog 53 #[ji x a c,.int .i64 g] w (xP (gU x g) w):=by
 obtain⟨Q,hQ⟩:=aqx (xP (gU x g) w);have HQY:Hid (∀v L B W,L=gU x g->w.heap.size<=B->nM W B v L->Below w.heap.size w W->Q (.returned v) W):=ah (fun v L B W h1 h2 h3 h4=>by rw [hQ];exact⟨v,rfl,h1▸h3.low h2,h4⟩);rw [<-hQ];clear hQ;obtain⟨s,hs⟩:=aqx (w.heap.size);obtain⟨U,hU⟩:=aqx ((w.alloc (.cells (vec 3 (eX x.ver a c)) 31)).alloc (.cells #[.slice none 0 0] 40));have hsz:U.heap.size=s+2:=(by rw [hU,hs];simp);have Lj:Below w.heap.size w U:=(by rw [hU];exact Laid.below ⟨[_,_],rfl⟩);have u0:aU U s 31 3 (eX x.ver a c):=(by rw [hU,hs];exact(aU.new _ _ _ _).alloc _);have u1:fB U (s+1) 40 #[.slice none 0 0]:=(by rw [hU,hs];exact fB.new _ _ _ (by simp));have HUU:Hid (U=(w.alloc (.cells (vec 3 (eX x.ver a c)) 31)).alloc (.cells #[.slice none 0 0] 40)):=ah hU;have NS:Hid (w.heap.size=s):=ah hs.symm;have HX:=ah hx;have HB:=ah hb;have HF:=ah hf;have HU0:=ah u0;have Z9:=ah u1;have Ll:=ah (ak Lj (ak hsz hs));have SI:=ah (zM g hf);unfold ji;clear hx hb hf hU hsz Lj u0 u1 hs;refine(callsIn_wide (n:=10)).1 ?_;refine callsIn_of_wp_marks Tryz.func53 rfl trivial ?_ rfl;simp only [Tryz.ntmps53,List.size_toArray,List.length_cons,List.length_nil,Nat.reduceAdd,Nat.reduceSub,Array.replicate_succ,Array.replicate_zero,List.push_toArray,List.append_toArray,List.nil_append,List.cons_append]
 gi_wp2_with (first
  |((with_reducible show wpListIn _ _ _ _ _ (Oper.mk _ (.load 31 _) _ _ _ _::_) _ _);rw [<-HUU.out];simp only [NS.out];refine jG lG rfl (by intro c e;cases e) (bF 31 _ rfl s rfl _ (aQ HU0.out Tryz.underlying31 rfl dR)) ?_;clear HUU)
  |(refine⟨trivial, ?_⟩;gi_at_call 93;refine(callsIn_wide.2 (IL _ (eX x.ver a c) rfl g _)).mono ?_;rintro e w1 ⟨rfl,hw1⟩;have HW1:=ah hw1;clear hw1))
 have bW:Below U.heap.size U w1:=(by rw [HW1.out];exact((aC _ _).alloc (aj _) _).alloc (by simp) _);have b1:aU w1 U.heap.size 31 3 (eX x.ver a c):=(by rw [HW1.out];exact(aU.new _ _ _ _).alloc _);have b2:fB w1 (U.heap.size+1) 3 #[.int .i64 g]:=(by rw [HW1.out];exact fB.new _ _ _ (by simp));have hz1:w1.heap.size=s+4:=(by rw [HW1.out];simp [Ll.out.2.1]);have hbw:Below w.heap.size w w1:=Ll.out.1.trans (bW.mono Ll.out.1.size);have hsw:w.heap.size=s:=Ll.out.2.2.symm;have c1:=Z9.out.under bW;have hsz:=Ll.out.2.1;have Qg:=ah (ak hz1 hsw);clear HW1 HU0 Z9 bW;refine Cm (n:=10) (n0:=w.heap.size) (by omega) (by omega) (gf:=130) (lb:= #[.pointer (some ⟨U.heap.size,0,none⟩),.pointer (some ⟨U.heap.size+1,0,none⟩)]) rfl (by intro args W;rfl)
  (IU 9 (by omega) x a c g w w1 HX.out HB.out HF.out hbw U.heap.size (U.heap.size+1) (fP x g).length b1 b2 (aj _)) (aC _ _)
  10 6 rfl 145 6 (fun z=>tq z.1) (fun _=>rfl) (PhI w w1 s) (PhX w w1 s) (adG (by omega)) (adH (by omega))
  ⟨⟨_,c1,gW.nil _ _⟩,(fun _ h=>by cases h),hbw,KN.refl _ _ _⟩ (fun l W h=>h.kn.size) ?assign ?body ?done ?stop
 case assign=>
  intro l z W K hK;simp only [List.setIfInBounds_toArray,List.set_cons_zero,List.set_cons_succ]at hK⊢;have HK:=ah hK;clear hK
  gi_wp2_with ((with_reducible show wpListIn _ _ _ _ _ (Oper.mk _ (.store 145 _ _) _ _ _ _::_) _ _);refine ni rfl 145 _ _ rfl _ rfl _ rfl (aS (aU.new W _ _ _) (tq z.1) zF (EH _ _)) ?_)
  exact HK.out _ (bg ((aC _ _).alloc (aj _) _) (aj _) _) ((aU.new W _ _ _).row _)
 case body=>
  intro lq pre z r W hr hi ha hlen;simp only [List.setIfInBounds_toArray,List.set_cons_zero,List.set_cons_succ];obtain⟨v,hv1,hv2⟩:=hi.own;have hzz:=hi.kn.size;have hpl:(pre.map fun y=>wu y.1).length<=100000:=(by rw [List.length_map];have:=SI.out;omega);obtain⟨rk,hrk⟩:=aqx (z.1.r);have q5:W.cell? ⟨r,5,none⟩=some (.int .i64 rk):=(by rw [hrk];exact ha.cell (i:=5) (by decide));have HIN:=ah hi;have HRK:=ah hrk;by_cases h2:rk=2
  · have hb2:(rk==2)=true:=by simpa using h2
    have bT:Hid (KeepsFrom w1.heap.size W W/\ PhX w w1 s (.exit 0) (pre++ [z]) W):=ah ⟨KeepsFrom.refl _ _,rfl,⟨pre,z,v,rfl,hi.low,by rw [<-hrk];exact h2,hv1,hv2⟩,hi.bel⟩;clear hv1 hv2 ha hi hlen hr hrk hpl h2
    gi_wp2
    exact bT.out
  · have hb2:(rk==2)=false:=by simpa using h2
    obtain⟨l,hl⟩:=aqx (pre.map fun y=>wu y.1);rw [<-hl]at hv2 hpl;have HL:=ah hl;have HPH:=ah (fun Y=>Aw z.1.m z.2 Y);have hbs:∀Y,_:=(fun Y=>oV (wu z.1) Y);obtain⟨A,d,rfl,-,-,hbk⟩:=hv2.form;have mD:Hid (s+1≠r/\ s+1<w1.heap.size):=ah ⟨by omega,by omega⟩;have HBK:=ah hbk;have HV0:=ah hv1;have HO0:=ah hv2;have Z5:=ah ha;have HLN:=ah hpl;have Yd:=ah hzz;have HR2:Hid (z.1.r≠2):=ah (by rw [<-hrk];exact h2);have HV:Hid (fB W.drew (s+1) 40 #[.slice A l.length d]):=ah hv1;have HO:Hid (nM W.drew w1.heap.size (.slice A l.length d) l):=ah hv2;clear hl hv1 hv2 ha hi hlen hr hrk hpl h2 hbk hzz
    gi_upto_region 5 with fail
    clear q5;have HMQ:Hid (∀Y,aU Y r 145 6 (tq z.1)->∀i,i<5->Y.cell? ((⟨r,0,none⟩:Addr).add i)=some (kK z.1.m i)):=ah fun Y hY i hi=>by
     rw [lF,Nat.zero_add,hY.cell (by omega)];rcases(by omega:i=0∨i=1∨i=2∨i=3∨i=4)with rfl|rfl|rfl|rfl|rfl<;>rfl
    refine wX (S:=fun Y=>aU Y r 145 6 (tq z.1)) (by kernel_rfl) (by kernel_rfl) (by rintro⟨_,_,h⟩;exact h) (show aU W.drew r 145 6 (tq z.1)from Z5.out) (fun hS=> ?_);refine tP 1 ?_;refine tP 2 (v:= .agg (vec 5 (kK z.1.m))) (hy:=by(intro W hW;exact dI 87 _ rfl ⟨r,0,none⟩ (by first|rfl|(simp;done)) _ (aW (HMQ.out W (show aU W r 145 6 (tq z.1)from hW)) Tryz.underlying87 rfl lN))) ?_;refine wQ 0 3 (h1:=fun K0 hK0=> ?ahK) (h2:=fun K3 hK3=> ?ahL)
    case ahK=>
     have hc:=HV.out.cellAt 0 rfl;go_simp;refine hK0 _ _ hS (fun hS0=> ?_);clear hc hK0 K0;refine oQ 3 fun K3 hK3=> ?_;go_simp;refine(HPH.out _).mono ?_;rintro e y3 ⟨rfl,hd⟩;have HV:=ah (HV.out.under hd);have Vf:=HV;have Ih:=ah (HO.out.on hd (aj _));have HD3:=ah (show mg (s+1) _ W.drew y3 from mg.of_below (v:= .slice A l.length d) hd);have wz:=ah (show aU y3 r 145 6 (tq z.1)from(show aU W.drew r 145 6 (tq z.1)from Z5.out).under hd);refine hK3 _ _ wz.out (fun hS3=> ?_);clear hd hK3 K3;refine oQ 4 fun K4 hK4=> ?_;refine Dn 40 _ rfl (.agg (vec 2 (bQ (wu z.1)))) rfl (hbs y3) ?_;refine hK4 _ _ (wz.out.alloc _) (fun hS4=> ?_);clear hK4 K4;have HV:=ah (Vf.out.alloc (.cells (vec 2 (bQ (wu z.1))) 24));refine oQ 5 fun K5 hK5=> ?_;obtain⟨B4,e4,w5,hrun,DW,hb4,hs4,hk4,hn4⟩:=CB (P:=Tryz.prog) (enc:=bQ) Tryz.underlying40 qH (iR _ _) (by decide) (wu z.1) (fun i _=>kP (wu z.1) 2 i (by assumption)) Ih.out (aA Yd.out HD3.out.size) (by have:=HLN.out;omega) (by decide) 40;have Ye:aU w5 r 145 6 (tq z.1):=(hk4 r wz.out.lt (own_ne Ih.out wz.out (by decide))).trans wz.out;have hv5:fB w5 (s+1) 40 #[.slice A l.length d]:=(hk4 (s+1) Vf.out.lt (own_ne Ih.out Vf.out (by decide))).trans Vf.out;have HV5:=ah hv5;have J7:=ah Ye;have D6:=ah (ak DW (ak hb4 (ak hs4 (ak hk4 hn4))));refine wB _ _ 40 rfl _ _ rfl rfl (by unfold uZ at hrun;exact hrun) ?_;refine hK5 _ _ Ye (fun hS5=> ?_);clear hK5 K5 hrun DW hb4 hs4 hk4 hn4 Ye hv5;refine oQ 6 fun K6 hK6=> ?_;have hc:=HV5.out.cellAt 0 rfl;have hf:=HV5.out.Qe 0;go_simp;refine hK6 _ _ ((Below.heap_setCell w5 ⟨s+1,0,none⟩ _ r (by simpa using mD.out.1.symm)).trans J7.out) (fun hS6=> ?_);clear hK6 K6 hc hf;refine wpAnyH_done (by kernel_rfl) ?_ _;have hl:=HL.out;subst hl;exact zN HBK.out HIN.out HR2.out HV0.out HO0.out HD3.out.drew HV5.out D6.out.1 D6.out.2.1 D6.out.2.2.1 D6.out.2.2.2.1 D6.out.2.2.2.2 Qg.out.1 Qg.out.2 Yd.out
    case ahL=>
     go_simp;refine(HPH.out _).mono ?_;rintro e y3 ⟨rfl,hd⟩;have HV:=ah (HV.out.under hd);have Vf:=HV;have Ih:=ah (HO.out.on hd (aj _));have HD3:=ah (show mg (s+1) _ W.drew y3 from mg.of_below (v:= .slice A l.length d) hd);have wz:=ah (show aU y3 r 145 6 (tq z.1)from(show aU W.drew r 145 6 (tq z.1)from Z5.out).under hd);refine hK3 _ _ wz.out (fun hS3=> ?_);clear hd hK3 K3;refine wQ 0 4 (h1:=fun K0 hK0=> ?ahM) (h2:=fun K4 hK4=> ?ahN)
     case ahM=>
      have hc:=HV.out.cellAt 0 rfl;go_simp;refine hK0 _ _ hS3 (fun hS0=> ?_);clear hc hK0 K0;refine oQ 4 fun K4 hK4=> ?_;refine Dn 40 _ rfl (.agg (vec 2 (bQ (wu z.1)))) rfl (hbs y3) ?_;refine hK4 _ _ (wz.out.alloc _) (fun hS4=> ?_);clear hK4 K4;have HV:=ah (Vf.out.alloc (.cells (vec 2 (bQ (wu z.1))) 24));refine oQ 5 fun K5 hK5=> ?_;obtain⟨B4,e4,w5,hrun,DW,hb4,hs4,hk4,hn4⟩:=CB (P:=Tryz.prog) (enc:=bQ) Tryz.underlying40 qH (iR _ _) (by decide) (wu z.1) (fun i _=>kP (wu z.1) 2 i (by assumption)) Ih.out (aA Yd.out HD3.out.size) (by have:=HLN.out;omega) (by decide) 40;have Ye:aU w5 r 145 6 (tq z.1):=(hk4 r wz.out.lt (own_ne Ih.out wz.out (by decide))).trans wz.out;have hv5:fB w5 (s+1) 40 #[.slice A l.length d]:=(hk4 (s+1) Vf.out.lt (own_ne Ih.out Vf.out (by decide))).trans Vf.out;have HV5:=ah hv5;have J7:=ah Ye;have D6:=ah (ak DW (ak hb4 (ak hs4 (ak hk4 hn4))));refine wB _ _ 40 rfl _ _ rfl rfl (by unfold uZ at hrun;exact hrun) ?_;refine hK5 _ _ Ye (fun hS5=> ?_);clear hK5 K5 hrun DW hb4 hs4 hk4 hn4 Ye hv5;refine oQ 6 fun K6 hK6=> ?_;have hc:=HV5.out.cellAt 0 rfl;have hf:=HV5.out.Qe 0;go_simp;refine hK6 _ _ ((Below.heap_setCell w5 ⟨s+1,0,none⟩ _ r (by simpa using mD.out.1.symm)).trans J7.out) (fun hS6=> ?_);clear hK6 K6 hc hf;refine wpAnyH_done (by kernel_rfl) ?_ _;have hl:=HL.out;subst hl;exact zN HBK.out HIN.out HR2.out HV0.out HO0.out HD3.out.drew HV5.out D6.out.1 D6.out.2.1 D6.out.2.2.1 D6.out.2.2.2.1 D6.out.2.2.2.2 Qg.out.1 Qg.out.2 Yd.out
     case ahN=>
      refine Dn 40 _ rfl (.agg (vec 2 (bQ (wu z.1)))) rfl (hbs y3) ?_;refine hK4 _ _ (wz.out.alloc _) (fun hS4=> ?_);clear hK4 K4;have HV:=ah (Vf.out.alloc (.cells (vec 2 (bQ (wu z.1))) 24));refine oQ 0 fun K0 hK0=> ?_;have hc:=HV.out.cellAt 0 rfl;go_simp;refine hK0 _ _ hS4 (fun hS0=> ?_);clear hc hK0 K0;refine oQ 5 fun K5 hK5=> ?_;obtain⟨B4,e4,w5,hrun,DW,hb4,hs4,hk4,hn4⟩:=CB (P:=Tryz.prog) (enc:=bQ) Tryz.underlying40 qH (iR _ _) (by decide) (wu z.1) (fun i _=>kP (wu z.1) 2 i (by assumption)) Ih.out (aA Yd.out HD3.out.size) (by have:=HLN.out;omega) (by decide) 40;have Ye:aU w5 r 145 6 (tq z.1):=(hk4 r wz.out.lt (own_ne Ih.out wz.out (by decide))).trans wz.out;have hv5:fB w5 (s+1) 40 #[.slice A l.length d]:=(hk4 (s+1) Vf.out.lt (own_ne Ih.out Vf.out (by decide))).trans Vf.out;have HV5:=ah hv5;have J7:=ah Ye;have D6:=ah (ak DW (ak hb4 (ak hs4 (ak hk4 hn4))));refine wB _ _ 40 rfl _ _ rfl rfl (by unfold uZ at hrun;exact hrun) ?_;refine hK5 _ _ Ye (fun hS5=> ?_);clear hK5 K5 hrun DW hb4 hs4 hk4 hn4 Ye hv5;refine oQ 6 fun K6 hK6=> ?_;have hc:=HV5.out.cellAt 0 rfl;have hf:=HV5.out.Qe 0;go_simp;refine hK6 _ _ ((Below.heap_setCell w5 ⟨s+1,0,none⟩ _ r (by simpa using mD.out.1.symm)).trans J7.out) (fun hS6=> ?_);clear hK6 K6 hc hf;refine wpAnyH_done (by kernel_rfl) ?_ _;have hl:=HL.out;subst hl;exact zN HBK.out HIN.out HR2.out HV0.out HO0.out HD3.out.drew HV5.out D6.out.1 D6.out.2.1 D6.out.2.2.1 D6.out.2.2.2.1 D6.out.2.2.2.2 Qg.out.1 Qg.out.2 Yd.out
 case done=>
  intro D ys W hD hS hi hdef;obtain⟨v,hv1,hv2⟩:=hi.own;have hph:=Yc hS hi.low;have hzz:=hi.kn.size;have c0:=hv1.cellAt 0 rfl;have HOO:=ah (Bf (B:=w1.heap.size) hv2 (grownBy_putObj' W D (.deferred none)) (fun k e=>by cases e;exact⟨hD,_,hdef,rfl⟩));have oK:=ah (hi.bel.grown (grownBy_putObj' W D (.deferred none)) hi.bel.size fun k e=>by cases e;omega);have Uk:=ah hph;clear hi hv1 hv2 hph hS
  gi_wp2
  refine⟨by simp,.inl ⟨_,_,rfl,run_takeDeferred hdef, ?_⟩⟩;refine⟨_,results_tmp rfl _ _ _, ?_⟩;exact(show Q (.returned v) _ from HQY.out v _ w1.heap.size _ Uk.out (by have:=Qg.out;omega) HOO.out oK.out)
 case stop=>
  intro D cd pre W hD hSp hi hdef;obtain rfl:=hi.ex;obtain⟨ys,z,v,rfl,h1,h2,hv1,hv2⟩:=hi.own;have hph:=Vd hSp h1 h2;have c0:=hv1.cellAt 0 rfl;have HOO:=ah (Bf (B:=w1.heap.size) hv2 (grownBy_putObj' W D (.deferred none)) (fun k e=>by cases e;exact⟨hD,_,hdef,rfl⟩));have oK:=ah (hi.bel.grown (grownBy_putObj' W D (.deferred none)) hi.bel.size fun k e=>by cases e;omega);have Uk:=ah hph;clear hi hv1 hv2 hph hSp h1 h2
  gi_wp2
  refine⟨by simp,.inl ⟨_,_,rfl,run_takeDeferred hdef, ?_⟩⟩;refine⟨_,results_tmp rfl _ _ _, ?_⟩;exact(show Q (.returned v) _ from HQY.out v _ w1.heap.size _ Uk.out (by have:=Qg.out;omega) HOO.out oK.out)
theorem Yf:Yg:=fun x a c g w hx hb hf=>Ve x a c g w hx hb hf
open Go.RowKit Go.Maps
attribute [local go_sem ↓ high] jo oZ nK
def Fx(p r2 r3 r5 n:Nat)(cf:Nat->Value)(y:GV)(Y:World):Prop:=Y.cell? ⟨p,7,none⟩=some (.int .i64 (n:Int))/\ fB Y r2 70 #[.pointer (some ⟨p,0,none⟩)]/\ aU Y r3 31 3 cf/\ aU Y r5 63 79 (aT y)
section
variable {p r2 r3 r5 n : Nat} {cf : Nat -> Value} {y : GV} {Y Y' : World}
theorem Fx.of(h:Fx p r2 r3 r5 n cf y Y)(h2:Y'.heap[r2]?=Y.heap[r2]?)(h3:Y'.heap[r3]?=Y.heap[r3]?)(h5:Y'.heap[r5]?=Y.heap[r5]?)(h7:Y'.cell? ⟨p,7,none⟩=some (.int .i64 (n:Int))):Fx p r2 r3 r5 n cf y Y':=⟨h7,h2.trans h.2.1,h3.trans h.2.2.1,h5.trans h.2.2.2⟩
theorem Fx.under(h:Fx p r2 r3 r5 n cf y Y)(hb:Below Y.heap.size Y Y'):Fx p r2 r3 r5 n cf y Y':=h.of (hb.block _ h.2.1.lt) (hb.block _ h.2.2.1.lt) (hb.block _ h.2.2.2.lt) ((hb.cell (p:=⟨p,7,none⟩) (lt_of_cell h.1)).trans h.1)
theorem Fx.save{m:Nat}(h:Fx p r2 r3 r5 n cf y Y)(hb:Save m Y Y')(h0:p≠m)(h2:r2≠m)(h3:r3≠m)(h5:r5≠m):Fx p r2 r3 r5 n cf y Y':=h.of (hb.block _ h.2.1.lt h2) (hb.block _ h.2.2.1.lt h3) (hb.block _ h.2.2.2.lt h5) ((hb.cell (p:=⟨p,7,none⟩) (lt_of_cell h.1) h0).trans h.1)
theorem Fx.Mc{v:Value}{bs:Nat}{l:List Sp}(h:Fx p r2 r3 r5 n cf y Y)(ho:nM Y bs v l)(hb:mg p v Y Y')(h2:r2≠p)(h3:r3≠p)(h5:r5≠p)(h7:Y'.cell? ⟨p,7,none⟩=some (.int .i64 (n:Int))):Fx p r2 r3 r5 n cf y Y':=
 h.of (hb.block _ h.2.1.lt h2 (own_ne ho h.2.1 (by decide))) (hb.block _ h.2.2.1.lt h3 (own_ne ho h.2.2.1 (by decide))) (hb.block _ h.2.2.2.lt h5 (own_ne ho h.2.2.2 (by decide))) h7
end
theorem Yh{b:Bd}{x:Cf}{n:Nat}(hn:n<x.gs.length)(s:Nat × Nat):iZ b x n s=aZ (uU x n) 10 n (aZ (Ba b x n x.gs[n]) 9 n (aZ (yX b x n x.gs[n]) 8 n (aZ (rV x.gs[n]) 7 n (aZ (oI x.gs[n]) 6 n (aZ (x.gs[n].dG.all (vG b)) 5 n (aZ (x.gs[n].wins.all (xO b)) 4 n (aZ (AY b x n) 3 n s))))))):=by
 unfold iZ wC wE;rw [aF hn]
theorem dS{is:Bool}{r k r1 n1:Nat}(h:r1≠0):aZ is r k (r1,n1)=(r1,n1):=dM h
theorem wF{b:Bd}{x:Cf}(i:Nat)(s:Nat × Nat)(h:s.1≠0):iZ b x i s=s:=by
 unfold iZ wC wE;cases x.gs[i]? with
 |none=>simp only;rw [dM (by rw [dM h];exact h),dM h]
 |some t=>
  simp only;rw [dM (s:=s) h,dM h,dM h,dM h,dM h,dM h,dM h,dM h]
def lH(b:Bd)(x:Cf):Nat × Nat:=upto x.gs.length (iZ b x) (0,0)
theorem NT{x:Cf}(hf:qU x=true){n:Nat}(hn:n<x.gs.length):(gU x (n:Int)).length<=40:=by
 unfold gU;rw [mJ hn];simp only;rw [qY,List.length_append,List.length_map,List.length_map];have:=jZ ((iI hf).2.2 _ (ay hn));omega
theorem Gm{x:Cf}(hf:qU x=true):∀n,n<=x.gs.length->(pK x n).length<=40*n
 |0,_=>by unfold pK;simp
 |n+1,h=>by
  rw [Dj,List.length_append];have:=Gm hf n (by omega);have:=NT hf (show n<x.gs.length by omega);omega
theorem NU{x:Cf}(hb:Aj x)(n:Nat):∀s∈pK x n,fit s:=fun s hs=>by
 obtain⟨i,_,hi⟩:=Dk.1 hs;exact Dp hb _ s hi
theorem aaX{x:Cf}{n:Nat}(hn:n<x.gs.length)(hw:x.gs[n].wins≠ []):gU x (n:Int)≠ []:=by
 unfold gU;rw [mJ hn];simp only;rw [qY];intro e;exact hw (List.map_eq_nil_iff.1 (List.append_eq_nil_iff.1 e).1)
theorem NV(x:Cf)(a c:Value)(b:Bd)(B p m1 m2 m3 m4 base N0:Nat)(wh0:Int)(L1:List Lit)(w:World)(hx:uw w B x a c)(hb:Aj x)(hf:qU x=true)(hr:fit b.r)(hl:fit b.l)(hft:sH b=true)(her:lT x=0)(hN0:N0<=1000)(hs:mM B w p m1 m2 m3 m4 base b wh0 N0 L1 [] [] [] []):
  Calls Tryz.prog 20 #[.pointer (some ⟨p,0,none⟩),ji x a c] w (Md B (lH b x) (fun w'=>∃wh N',N'<=10000/\ mM B w' p m1 m2 m3 m4 base b wh N' L1 (ug x x.gs.length) (uQ x x.gs.length) (uS x x.gs.length) (pK x x.gs.length)) w):=by
 have hBw:B<=w.heap.size:=(by have:=hs.ord;omega);have hbw:base<=w.heap.size:=(by have:=hs.ord;omega);obtain⟨hx1,A,d,ys,ha,hm,hg,hcap⟩:=hx;have hlen:ys.length=x.gs.length:=(by rw [<-hm,List.length_map]);obtain⟨NG,xu⟩:=aqx (x.gs.length);have aaY:NG<=20:=(by rw [xu];exact(iI hf).1);obtain⟨r2,hr2⟩:=aqx (w.heap.size);obtain⟨r3,hr3⟩:=aqx (w.heap.size+1);obtain⟨V,hV⟩:=aqx ((w.alloc (.cells #[.pointer (some ⟨p,0,none⟩)] 70)).alloc (.cells (vec 3 (eX x.ver a c)) 31));have bV:Below w.heap.size w V:=(by rw [hV];exact(Below.aY w _).alloc (by simp) _);have v2:fB V r2 70 #[.pointer (some ⟨p,0,none⟩)]:=(by rw [hV];exact(fB.new w _ _ hr2).alloc _);have v3:aU V r3 31 3 (eX x.ver a c):=(by rw [hV,hr3];exact aU.newAt _ _ _ _ (by simp));have Vg:=hs.under bV;have c1:V.cell? ⟨r3,1,none⟩=some (.slice A NG d):=by
  rw [v3.cell (i:=1) (by decide),xu];exact congrArg some ha
 have HST:Hid ((∃wh,mM B V p m1 m2 m3 m4 base b wh (N0+300*0) L1 (ug x 0) (uQ x 0) (uS x 0) (pK x 0))/\ Below B w V/\ upto 0 (iZ b x) (0,0)=(0,0)/\ fB V r2 70 #[.pointer (some ⟨p,0,none⟩)]/\ aU V r3 31 3 (eX x.ver a c)):=ah ⟨⟨wh0,Vg⟩,bV.mono hBw,rfl,v2,v3⟩;have HRW:Hid (∀Y,Below B w Y->Qi Y B A ys):=(ah fun Y hY=>hg.below hY);have HCAP:Hid (∀y∈ys,adK y):=ah hcap;have Lh:Hid (∀k (hk:k<ys.length) (hk2:k<x.gs.length),ys[k].g=x.gs[k]):=(ah fun k hk hk2=>by simp [<-hm]);have HLEN:=ah (ak hlen xu);have oK:=ah hb;have Ji:=ah hf;have Bg:=ah (ak hft (ak hr hl));have HER:Hid (∀g∈x.gs,acf g):=(ah fun g hg=>Qj (zO her g hg));have HCF:Hid (∀Y,Below B w Y->Ai Y B x a c):=(ah fun Y hY=>hx1.below hY);have J8:Hid (B<=m1/\ m1<m2/\ m2<m3/\ m3<m4/\ m4<p/\ p<base/\ base<=r2/\ r3=r2+1/\ N0<=1000/\ r2=w.heap.size):=ah (by have:=hs.ord;omega);have HV:=ah hV;have HR:=ah (ak hr2 hr3);have ahP:=ah xu;unfold ji;clear hx1 ha hm hg hcap hlen hV hr2 hr3 bV v2 v3 Vg hb hf hr hl hft her hN0 hs hBw hbw xu;go_enter Tryz.func20,Tryz.ntmps20;go_upto_region 1 with fail
 rw [<-HV.out, <-HR.out.2, <-HR.out.1];clear HV HR;go_upto_region 2 with fail
 clear c1;go_loopw [9] (fun v W=>∃n:Nat,n<=NG/\ v= .int .i64 n/\ Hid ((∃wh,mM B W p m1 m2 m3 m4 base b wh (N0+300*n) L1 (ug x n) (uQ x n) (uS x n) (pK x n))/\ Below B w W/\ upto n (iZ b x) (0,0)=(0,0)/\ fB W r2 70 #[.pointer (some ⟨p,0,none⟩)]/\ aU W r3 31 3 (eX x.ver a c))) (fun v _=>NG-(intOf v).toNat)
 case atStart=>exact⟨0,aB _,rfl,HST⟩
 case round=>
  clear HST;obtain⟨n,hn,rfl,HR⟩:=hrel;obtain⟨W,hW⟩:=aqx wr;subst hW;by_cases hlt:n<NG
  · have hnN:(n:Int)< (NG:Int):=by omega
    have hny:n<ys.length:=(by have:=HLEN.out;omega);have hnx:n<x.gs.length:=(by have:=HLEN.out;omega);obtain⟨⟨wh,hK⟩,hBel,hU,hk2,hk3⟩:=HR.out;obtain⟨a0,q,rfl,hq,-,hcp⟩:=(HRW.out W hBel).row.at hny;obtain⟨y,hy⟩:=aqx (ys[n]);rw [<-hy]at hcp;have hyg:y.g=x.gs[n]:=(by rw [hy];exact Lh.out n hny hnx);have hgr:∀Y,Below B w Y->qI Y B y:=fun Y hY=>by rw [hy];exact(HRW.out Y hY).all _ (ay _)
    have hone:GV1 y:=(hgr W hBel).one;obtain⟨t,ht⟩:=aqx (x.gs[n]);have htm:t∈x.gs:=(by rw [ht];exact ay _);obtain⟨A1,e1,w1,hw1⟩:∃A1 e1,y.wv= .slice A1 t.wins.length e1/\ t.wins.length<=e1:=by
      have:=HCAP.out y (by rw [hy];exact ay _);obtain⟨A1,e1,h1,h2⟩:=this;exact⟨A1,e1,by rw [h1,hyg,ht],by rw [ht, <-hyg];exact h2⟩
    obtain⟨A2,e2,w2,-,-⟩:=(hgr W hBel).de;obtain⟨A3,e3,w3,-,-⟩:=(hgr W hBel).ir;obtain⟨A4,e4,w4,-,-⟩:=(hgr W hBel).st;have wY:Hid (∀Y,Below B w Y->bI 4 bG Y B A1 t.wins/\ bI 3 iC Y B A2 t.dG/\ bI 3 dV Y B A3 t.cO/\ bI 1 mP Y B A4 t.strs):=ah fun Y hY=>by
      obtain⟨⟨_,_,f1,g1,_⟩,⟨_,_,f2,g2,_⟩,⟨_,_,f3,g3,_⟩,⟨_,_,f4,g4,_⟩⟩:=hgr Y hY;rw [w1]at f1;rw [w2]at f2;rw [w3]at f3;rw [w4]at f4;injection f1 with f1
      injection f2 with f2
      injection f3 with f3
      injection f4 with f4
      rw [ht, <-hyg,f1,f2,f3,f4];exact⟨g1,g2,g3,g4⟩
    have HGR:=ah hgr;rw [hyg, <-ht]at w2 w3 w4;have hpo:=HER.out t htm;have hfw:=jZ ((iI Ji.out).2.2 t htm);have htb:=oK.out.gs t htm;have hperm:∀v∈t.wins,0<=v.perm/\ v.perm<=7:=fun v hv=>by
      have:=hpo.wins v hv;unfold jr inB at this
      simpa using this
    have Yi:∀v∈t.cO,0<=v.cpu/\ v.cpu<=65535:=fun v hv=>by
      have:=hpo.cO v hv;unfold jv inB at this;simp at this;omega
    have hwne:t.wins≠ []:=by
      have:=hpo.cnt;unfold tX inB at this;simp only [Bool.and_eq_true,decide_eq_true_eq]at this;intro e;rw [e]at this;simp at this
    obtain⟨c3,hc3⟩:=aqx (AY b x n);obtain⟨c4,hc4⟩:=aqx (t.wins.all (xO b));obtain⟨c5,hc5⟩:=aqx (t.dG.all (vG b));obtain⟨c6,hc6⟩:=aqx (oI t);obtain⟨c7,hc7⟩:=aqx (rV t);obtain⟨c8,hc8⟩:=aqx (yX b x n x.gs[n]);obtain⟨c9,hc9⟩:=aqx (Ba b x n x.gs[n]);obtain⟨c10,adL⟩:=aqx (uU x n);have hge:iZ b x n (0,0)=aZ c10 10 n (aZ c9 9 n (aZ c8 8 n (aZ c7 7 n (aZ c6 6 n (aZ c5 5 n (aZ c4 4 n (aZ c3 3 n (0,0)))))))):=(by rw [Yh hnx,hc3,hc4,hc5,hc6,hc7,hc8,hc9,adL,ht]);have hstop:∀r,r≠0->iZ b x n (0,0)=(r,n)->lH b x=(r,n):=(fun r hr0 he=>vk wF hU he hr0 hnx);have adM:Hid (c3=false->lH b x=(3,n)):=(ah fun h3=>hstop 3 (by decide) (by rw [hge,h3];simp only [iT];rw [dS (r1:=3) (by decide),dS (r1:=3) (by decide),dS (r1:=3) (by decide),dS (r1:=3) (by decide),dS (r1:=3) (by decide),dS (r1:=3) (by decide),dS (r1:=3) (by decide)]));have akz:Hid (c3=true->c4=false->lH b x=(4,n)):=(ah fun h3 h4=>hstop 4 (by decide) (by rw [hge,h3,h4];simp only [eP,iT];rw [dS (r1:=4) (by decide),dS (r1:=4) (by decide),dS (r1:=4) (by decide),dS (r1:=4) (by decide),dS (r1:=4) (by decide),dS (r1:=4) (by decide)]));have akA:Hid (c3=true->c4=true->c5=false->lH b x=(5,n)):=(ah fun h3 h4 h5=>hstop 5 (by decide) (by rw [hge,h3,h4,h5];simp only [eP,iT];rw [dS (r1:=5) (by decide),dS (r1:=5) (by decide),dS (r1:=5) (by decide),dS (r1:=5) (by decide),dS (r1:=5) (by decide)]));have akB:Hid (c3=true->c4=true->c5=true->c6=false->lH b x=(6,n)):=(ah fun h3 h4 h5 h6=>hstop 6 (by decide) (by rw [hge,h3,h4,h5,h6];simp only [eP,iT];rw [dS (r1:=6) (by decide),dS (r1:=6) (by decide),dS (r1:=6) (by decide),dS (r1:=6) (by decide)]));have akC:Hid (c3=true->c4=true->c5=true->c6=true->c7=false->lH b x=(7,n)):=(ah fun h3 h4 h5 h6 h7=>hstop 7 (by decide) (by rw [hge,h3,h4,h5,h6,h7];simp only [eP,iT];rw [dS (r1:=7) (by decide),dS (r1:=7) (by decide),dS (r1:=7) (by decide)]));have akD:Hid (c3=true->c4=true->c5=true->c6=true->c7=true->c8=false->lH b x=(8,n)):=(ah fun h3 h4 h5 h6 h7 h8=>hstop 8 (by decide) (by rw [hge,h3,h4,h5,h6,h7,h8];simp only [eP,iT];rw [dS (r1:=8) (by decide),dS (r1:=8) (by decide)]));have akE:Hid (c3=true->c4=true->c5=true->c6=true->c7=true->c8=true->c9=false->lH b x=(9,n)):=ah fun h3 h4 h5 h6 h7 h8 h9=>hstop 9 (by decide) (by rw [hge,h3,h4,h5,h6,h7,h8,h9];simp only [eP,iT];rw [dS (r1:=9) (by decide)])
    have ahR:Hid (c3=true->c4=true->c5=true->c6=true->c7=true->c8=true->c9=true->c10=false->lH b x=(10,n)):=(ah fun h3 h4 h5 h6 h7 h8 h9 h10=>hstop 10 (by decide) (by rw [hge,h3,h4,h5,h6,h7,h8,h9,h10];simp only [eP,iT]));have je:Hid (c3=true->c4=true->c5=true->c6=true->c7=true->c8=true->c9=true->c10=true->upto (n+1) (iZ b x) (0,0)=(0,0)):=ah fun h3 h4 h5 h6 h7 h8 h9 h10=>by rw [upto_succ,hU,hge,h3,h4,h5,h6,h7,h8,h9,h10];rfl
    have hapart:(c10=true∨True)->uT (pK x n):=fun _=>Dl n fun i hi=>by
      have:=(vH (f:=iZ b x) (P:=fun g=>∀ (hg:g<x.gs.length),Bh b x g x.gs[g]) (fun i s hs=>Gn hs) n (0,0) (by rw [hU])).2 i hi (by omega);exact this.owned
    obtain⟨r5,EJ⟩:=aqx (W.heap.size);obtain⟨X,hX⟩:=aqx ((W.alloc (.cells (vec 79 (aT vw)) 63)).setRow W.heap.size (vec 79 (aT y)));have bX:Below W.heap.size W X:=(by rw [hX];exact bg ((aC _ _).alloc (aj _) _) (aj _) _);have aX:aU X r5 63 79 (aT y):=(by rw [hX,EJ];exact(aU.new W _ _ _).row _);have kX:=hK.under bX;obtain⟨X2,hX2⟩:=aqx (X.setCell ⟨p,7,none⟩ (.int .i64 (n:Int)));have Lm:mM B X2 p m1 m2 m3 m4 base b (n:Int) (N0+300*n) L1 (ug x n) (uQ x n) (uS x n) (pK x n):=(by rw [hX2];exact kX.AO _);have hord:=hK.ord;have hor:=J8.out;have akF:r2<W.heap.size:=hk2.lt;have akG:r3<W.heap.size:=hk3.lt;have FX:Fx p r2 r3 r5 n (eX x.ver a c) y X2:=⟨Lm.cell.1,by rw [hX2];exact(Below.heap_setCell X ⟨p,7,none⟩ _ r2 (by show r2≠p;omega)).trans (hk2.under bX),by rw [hX2];exact(hk3.under bX).far (p:=⟨p,7,none⟩) (by show r3≠p;omega) _,by rw [hX2];exact aX.far (p:=⟨p,7,none⟩) (by show r5≠p;omega) _⟩;have bX2:Below B w X2:=by
      rw [hX2];exact(hBel.trans (bX.mono (by omega))).setCell (p:=⟨p,7,none⟩) (by show B<=p;omega) _
    have x2:X.cell? ⟨r2,0,none⟩=some (.pointer (some ⟨p,0,none⟩)):=(hk2.under bX).cellAt 0 rfl;have f7:=kX.cell.2.2.2.2.2;have e7:=kX.cell.1;obtain⟨C,hC⟩:=aqx (t.gX);obtain⟨n1,hn1⟩:=aqx (t.wins.length);obtain⟨n2,hn2⟩:=aqx (t.dG.length);obtain⟨n3,hn3⟩:=aqx (t.cO.length);obtain⟨n4,hn4⟩:=aqx (t.strs.length);have Gp:Hid (∀Y,Fx p r2 r3 r5 n (eX x.ver a c) y Y->Y.cell? ⟨r2,0,none⟩=some (.pointer (some ⟨p,0,none⟩))/\ Y.cell? ⟨r5,4,none⟩=some (.int .u32 C)/\ Y.cell? ⟨r5,75,none⟩=some (.slice A1 n1 e1)/\ Y.cell? ⟨r5,76,none⟩=some (.slice A2 n2 e2)/\ Y.cell? ⟨r5,77,none⟩=some (.slice A3 n3 e3)/\ Y.cell? ⟨r5,78,none⟩=some (.slice A4 n4 e4)):=ah fun Y hY=>by
      rw [hn1,hn2,hn3,hn4, <-w1, <-w2, <-w3, <-w4,hC,ht, <-hyg];exact⟨hY.2.1.cellAt 0 rfl,hY.2.2.2.cell (i:=4) (by decide),hY.2.2.2.cell (i:=75) (by decide),hY.2.2.2.cell (i:=76) (by decide),hY.2.2.2.cell (i:=77) (by decide),hY.2.2.2.cell (i:=78) (by decide)⟩
    have hcb:0<=b.gX/\ b.gX<=32:=(by have:=Jj Bg.out.1;omega);have hsb:0<=b.strs/\ b.strs<=256:=(by have:=Jj Bg.out.1;omega);have hmk:0<=t.gX/\ t.gX<=4294967295:=htb.gX;have CQ:Hid (∀Y,mM B Y p m1 m2 m3 m4 base b (n:Int) (N0+300*n) L1 (ug x n) (uQ x n) (uS x n) (pK x n)->Calls Tryz.prog 40 #[.pointer (some ⟨p,0,none⟩),.int .u32 C] Y fun e w'=>∃r,e= .returned (.bool r)/\ r=c3/\ Save m2 Y w'/\ (r=true->mM B w' p m1 m2 m3 m4 base b (n:Int) (N0+300*n+32) L1 (ug x (n+1)) (uQ x n) (uS x n) (pK x n))):=ah fun Y hY=>by
      have:=Ur p b t.gX hmk m2 (N0+300*n) (ug x n) Y hY.kb hY.ne.2.1 hY.cell.2.2.1 hY.s2 (by omega);rw [hC];refine this.mono fun e w' hh=> ?_;obtain⟨r,h1,h2,h3,h4⟩:=hh;refine⟨r,h1,by rw [h2,hc3,ht];exact aaR oK.out hcb hnx,h4,fun e=> ?_⟩;have h3:=h3 e;rw [show ug x n++tK t.gX 32=ug x (n+1) by rw [ht];exact(UQ x n hnx).symm]at h3;exact hY.take2 (by omega) h4 h3
    have HC4:Hid (∀Y,KB Y p b->Below B w Y->Calls Tryz.prog 41 #[.slice A1 n1 e1,.func (.func 42) #[.pointer (some ⟨p,0,none⟩)] #[]] Y (jc c4 Y)):=ah fun Y hY hB=>by
      rw [hc4,hn1];exact U1 p b Bg.out.1 Bg.out.2.1 Bg.out.2.2 t.wins (by omega) htb.wins A1 B e1 Y hY (wY.out Y hB).1 (by have:=hB.size;omega)
    have HC5:Hid (∀Y,KB Y p b->Below B w Y->Calls Tryz.prog 43 #[.slice A2 n2 e2,.func (.func 44) #[.pointer (some ⟨p,0,none⟩)] #[]] Y (jc c5 Y)):=ah fun Y hY hB=>by
      rw [hc5,hn2];exact U2 p b Bg.out.2.1 t.dG (by omega) htb.dG A2 B e2 Y hY (wY.out Y hB).2.1 (by have:=hB.size;omega)
    have HC6:Hid (∀Y,Below B w Y->Calls Tryz.prog 45 #[.agg (vec 79 (aT y))] Y (jc c6 Y)):=ah fun Y hB=>by
      obtain⟨y0,l0,hl0⟩:∃y0 l0,t.wins=y0::l0:=by
       cases hw:t.wins with
       |nil=>exact absurd hw hwne
       |cons y0 l0=>exact⟨y0,l0,rfl⟩
      have hy0:y0∈t.wins:=(by rw [hl0];exact List.mem_cons_self ..);have:=J9 y y0 l0 (by rw [hyg, <-ht];exact hl0) (htb.wins y0 hy0) (by rw [hyg, <-ht];exact htb.entry) B Y (HGR.out Y hB) (by have:=hB.size;omega);rw [hyg, <-ht,Yj hl0 (hperm y0 hy0), <-hc6]at this;exact this
    have HC7:Hid (∀Y,Below B w Y->Calls Tryz.prog 46 #[.agg (vec 79 (aT y))] Y (jc c7 Y)):=ah fun Y hB=>by
      have:=Gq y (by rw [hyg, <-ht];exact hwne) (by rw [hyg, <-ht];omega) (by rw [hyg, <-ht];exact htb.wins) (by rw [hyg, <-ht];exact htb.Ac) B e1 A1 Y (by rw [hyg, <-ht];exact w1) (by rw [hyg, <-ht];exact hw1) (by rw [hyg, <-ht];exact(wY.out Y hB).1) (by have:=hB.size;omega);rw [hyg, <-ht,adN hperm, <-hc7]at this;exact this
    have HC8:Hid (∀Y,mM B Y p m1 m2 m3 m4 base b (n:Int) (N0+300*n+32) L1 (ug x (n+1)) (uQ x n) (uS x n) (pK x n)->Below B w Y->Fx p r2 r3 r5 n (eX x.ver a c) y Y->Calls Tryz.prog 47 #[.slice A3 n3 e3,.func (.func 48) #[] #[.pointer (some ⟨r2,0,none⟩),.pointer (some ⟨r5,0,none⟩)]] Y fun e w'=>∃r,e= .returned (.bool r)/\ r=c8/\ Save m3 Y w'/\ (r=true->mM B w' p m1 m2 m3 m4 base b (n:Int) (N0+300*n+132) L1 (ug x (n+1)) (uQ x (n+1)) (uS x n) (pK x n))):=ah fun Y hY hB hF=>by
      have:=U4 oK.out n hnx (by rw [<-ht];omega) (by rw [<-ht];exact Yi) r2 r5 e3 A3 Y hY (by omega) (by rw [<-ht];exact(wY.out Y hB).2.2.1) (by omega) (by omega) (Gp.out Y hF).1 (by rw [<-ht, <-hC];exact(Gp.out Y hF).2.1);rw [hn3,hc8];rw [<-ht]at this⊢;exact this
    have HC9:Hid (∀Y,mM B Y p m1 m2 m3 m4 base b (n:Int) (N0+300*n+132) L1 (ug x (n+1)) (uQ x (n+1)) (uS x n) (pK x n)->Below B w Y->Calls Tryz.prog 50 #[.slice A4 n4 e4,.func (.func 51) #[.pointer (some ⟨p,0,none⟩)] #[]] Y fun e w'=>∃r,e= .returned (.bool r)/\ r=c9/\ Save m4 Y w'/\ (r=true->mM B w' p m1 m2 m3 m4 base b (n:Int) (N0+300*n+232) L1 (ug x (n+1)) (uQ x (n+1)) (uS x (n+1)) (pK x n))):=ah fun Y hY hB=>by
      have:=Va oK.out n hnx (by rw [<-ht];omega) hsb e4 A4 Y hY (by omega) (by rw [<-ht];exact(wY.out Y hB).2.2.2);rw [hn4,hc9];rw [<-ht]at this⊢;exact this
    have akH:Hid (∀Y,Below B w Y->Calls Tryz.prog 53 #[.agg (vec 3 (eX x.ver a c)),.int .i64 (n:Int)] Y (xP (gU x (n:Int)) Y)):=(ah fun Y hB=>Yf x a c (n:Int) Y ((HCF.out Y hB).wide (by have:=hB.size;omega)) oK.out Ji.out);have HOWN:Hid (∀ (A':Option Addr) (c':Nat) Y,mM B Y p m1 m2 m3 m4 base b (n:Int) (N0+300*n+232) L1 (ug x (n+1)) (uQ x (n+1)) (uS x (n+1)) (pK x n)->Below B w Y->Fx p r2 r3 r5 n (eX x.ver a c) y Y->bI 2 bQ Y Y.heap.size A' (gU x (n:Int))->Calls Tryz.prog 52 #[.pointer (some ⟨p,0,none⟩),.slice A' (gU x (n:Int)).length c'] Y fun e w'=>e= .returned (.bool c10)/\ mM B w' p m1 m2 m3 m4 base b (n:Int) (N0+300*n+232) L1 (ug x (n+1)) (uQ x (n+1)) (uS x (n+1)) (pK x (n+1))/\ Fx p r2 r3 r5 n (eX x.ver a c) y w'/\ Below B Y w'):=ah fun A' c' Y hY hB hF hrow=>by
      obtain⟨Am,cm,hbox,hown⟩:=hY.box;have hyo:=hY.ord;have hml:=Gm Ji.out n (by omega);have hpl:=NT Ji.out hnx;refine(LY Jc p b (n:Int) m1 m2 m3 m4 base cm c' Am A' (pK x n) (gU x (n:Int)) Y hbox hown (by omega) (by omega) (aaX hnx (by rw [<-ht];exact hwne)) hrow (by omega) (fun s hs=>(List.mem_append.1 hs).elim (NU oK.out n s) (Dp oK.out _ s))).mono fun e w' hh=> ?_;obtain⟨h1,h2,h3⟩:=hh;rw [ady (hapart (.inr trivial))]at h1;rw [<-Dj]at h2;have hk:=hY.own hown h3 h2;exact⟨by rw [h1,adL],hk,hF.Mc hown h3 (by omega) (by omega) (by omega) hk.cell.1,h3.J6 hown (by omega) (by omega) (by omega)⟩
    have pq:=ah Lm;have Dq:=ah FX;have fU:=ah bX2;have HX:=ah hX;have MV:=ah hX2;have Yk:=ah EJ;have gI:=ah hcp;have Ko:=ah hone;have HRR:Hid (r2≠m2/\ r3≠m2/\ r5≠m2/\ r2≠m3/\ r3≠m3/\ r5≠m3/\ r2≠m4/\ r3≠m4/\ r5≠m4/\ p≠m2/\ p≠m3/\ p≠m4/\ B<=m2/\ B<=m3/\ B<=m4/\ B<=w.heap.size):=ah (by omega);clear hK hBel hU hk2 hk3 hcp hy hyg hgr hone w1 w2 w3 w4 hw1 hpo hfw htb hperm Yi hwne hc3 hc4 hc5 hc6 hc7 hc8 hc9 adL hge hstop hapart EJ hX bX aX kX hX2 Lm hord hor akF akG FX bX2 hC hn1 hn2 hn3 hn4 hcb hsb hmk HR htm ht hny hnx wY HGR;go_upto_region 4 with(first
      |((with_reducible refine aqy (.load 63 _) ?_);refine bC rfl 63 _ rfl q rfl _ (aW gI.out Tryz.underlying63 rfl dU) ?_)
      |((with_reducible refine aqy (.store 63 _ _) ?_);refine bD rfl 63 _ _ rfl _ rfl _ rfl (aS (aU.new W _ _ _) (aT y) dU (fC _ Ko.out _)) ?_))
    rw [<-HX.out, <-Yk.out];clear HX gI Yk Ko;go_upto_region 5 with fail
    rw [<-MV.out];clear MV f7 e7 x2;refine wp_region_held_drew (S:=fun Y=>Fx p r2 r3 r5 n (eX x.ver a c) y Y) (by kernel_rfl) (Dq.out.under (show Below X2.heap.size X2 X2.drew from below_drewN (aC _ _) 1)) (fun hS=> ?_);obtain⟨Y0,hY0⟩:=aqx (X2.drew);rw [<-hY0]at hS⊢;have pq:=ah (show mM _ Y0 _ _ _ _ _ _ _ _ _ _ _ _ _ _ by rw [hY0];exact pq.out.drewN 1);have fU:Hid (Below B w Y0):=ah (by rw [hY0];exact below_drewN fU.out 1);clear hY0;refine tP 0 (hy:=by(intro W hW;obtain⟨z0,z1⟩:=ak (Gp.out W hW) True.intro;clear hW;go_split_ands;go_simp;(try with_reducible rfl))) ?_;refine tP 1 (hy:=by(intro W hW;obtain⟨z0,z1⟩:=ak (Gp.out W hW) True.intro;clear hW;go_split_ands;go_simp;(try with_reducible rfl))) ?_;refine tP 2 ?_;refine tP 3 (hy:=by(intro W hW;obtain⟨z0,z1⟩:=ak (Gp.out W hW) True.intro;clear hW;go_split_ands;go_simp;(try with_reducible rfl))) ?_;refine oQ 4 fun K4 hK4=> ?_;go_simp;refine(CQ.out _ pq.out).mono ?_;rintro e y4 ⟨r,rfl,hre,hsv,hset⟩;have Ei:=ah hre;have zH:=ah hset;have fU:=ah (fU.out.trans (hsv.below HRR.out.2.2.2.2.2.2.2.2.2.2.2.2.1 (aA HRR.out.2.2.2.2.2.2.2.2.2.2.2.2.2.2.2 fU.out.size)));refine hK4 _ _ (Fx.save hS hsv HRR.out.2.2.2.2.2.2.2.2.2.1 HRR.out.1 HRR.out.2.1 HRR.out.2.2.1) (fun hS4=> ?_);clear hS hre hsv hset hK4 K4;refine oQ 5 fun K5 hK5=> ?_;go_simp;refine(jJ r 3 n p _ hS4.1).mono ?_;rintro e y5 ⟨⟨hz,rfl⟩|⟨hz,rfl⟩,rfl⟩
    rotate_left
    · exact⟨rfl,.no (adM.out (by first|exact hz|(rw [<-Ei.out];exact hz))) (by decide) fU.out⟩
    have HZ3:Hid (c3=true):=ah (by first|exact hz|(rw [<-Ei.out];exact hz));have pq:=ah (zH.out hz);clear zH Ei;clear hz;refine hK5 _ _ hS4 (fun hS5=> ?_);clear hS4 hK5 K5;refine wpAnyH_done (by kernel_rfl) ?_ _;have Dq:=ah hS5;clear hS5;obtain⟨U5,hU5⟩:=aqx y4;rw [<-hU5]at Dq pq fU⊢;clear hU5;go_upto_region 6 with fail
    refine wp_region_held_drew (S:=fun Y=>Fx p r2 r3 r5 n (eX x.ver a c) y Y) (by kernel_rfl) (Dq.out.under (show Below U5.heap.size U5 U5.drew from below_drewN (aC _ _) 1)) (fun hS=> ?_);obtain⟨Y0,hY0⟩:=aqx (U5.drew);rw [<-hY0]at hS⊢;have pq:=ah (show mM _ Y0 _ _ _ _ _ _ _ _ _ _ _ _ _ _ by rw [hY0];exact pq.out.drewN 1);have fU:Hid (Below B w Y0):=ah (by rw [hY0];exact below_drewN fU.out 1);clear hY0;refine tP 0 (hy:=by(intro W hW;obtain⟨z0,z1⟩:=ak (Gp.out W hW) True.intro;clear hW;go_split_ands;go_simp;(try with_reducible rfl))) ?_;refine tP 1 ?_;refine tP 2 (hy:=by(intro W hW;obtain⟨z0,z1⟩:=ak (Gp.out W hW) True.intro;clear hW;go_split_ands;go_simp;(try with_reducible rfl))) ?_;refine tP 3 (hy:=by(intro W hW;obtain⟨z0,z1⟩:=ak (Gp.out W hW) True.intro;clear hW;go_split_ands;go_simp;(try with_reducible rfl))) ?_;refine tP 4 ?_;refine oQ 5 fun K5 hK5=> ?_;go_simp;have hcon:=HC4.out _ pq.out.kb fU.out;unfold jc at hcon;refine hcon.mono ?_;clear hcon;rintro e y5 ⟨rfl,hd⟩;have pq:=ah (pq.out.under hd);have fU:=ah (fU.out.trans (hd.mono (aA HRR.out.2.2.2.2.2.2.2.2.2.2.2.2.2.2.2 fU.out.size)));refine hK5 _ _ (Fx.under hS hd) (fun hS5=> ?_);clear hS hd hK5 K5;refine oQ 6 fun K6 hK6=> ?_;go_simp;refine(jJ c4 4 n p _ hS5.1).mono ?_;rintro e y6 ⟨⟨hz,rfl⟩|⟨hz,rfl⟩,rfl⟩
    rotate_left
    · exact⟨rfl,.no (akz.out HZ3.out (by first|exact hz|(rw [<-Ei.out];exact hz))) (by decide) fU.out⟩
    have OW:Hid (c4=true):=ah (by first|exact hz|(rw [<-Ei.out];exact hz));clear hz;refine hK6 _ _ hS5 (fun hS6=> ?_);clear hS5 hK6 K6;refine wpAnyH_done (by kernel_rfl) ?_ _;have Dq:=ah hS6;clear hS6;obtain⟨U6,hU6⟩:=aqx y5;rw [<-hU6]at Dq pq fU⊢;clear hU6;go_upto_region 7 with fail
    refine wp_region_held_drew (S:=fun Y=>Fx p r2 r3 r5 n (eX x.ver a c) y Y) (by kernel_rfl) (Dq.out.under (show Below U6.heap.size U6 U6.drew from below_drewN (aC _ _) 1)) (fun hS=> ?_);obtain⟨Y0,hY0⟩:=aqx (U6.drew);rw [<-hY0]at hS⊢;have pq:=ah (show mM _ Y0 _ _ _ _ _ _ _ _ _ _ _ _ _ _ by rw [hY0];exact pq.out.drewN 1);have fU:Hid (Below B w Y0):=ah (by rw [hY0];exact below_drewN fU.out 1);clear hY0;refine tP 0 (hy:=by(intro W hW;obtain⟨z0,z1⟩:=ak (Gp.out W hW) True.intro;clear hW;go_split_ands;go_simp;(try with_reducible rfl))) ?_;refine tP 1 ?_;refine tP 2 (hy:=by(intro W hW;obtain⟨z0,z1⟩:=ak (Gp.out W hW) True.intro;clear hW;go_split_ands;go_simp;(try with_reducible rfl))) ?_;refine tP 3 (hy:=by(intro W hW;obtain⟨z0,z1⟩:=ak (Gp.out W hW) True.intro;clear hW;go_split_ands;go_simp;(try with_reducible rfl))) ?_;refine tP 4 ?_;refine oQ 5 fun K5 hK5=> ?_;go_simp;have hcon:=HC5.out _ pq.out.kb fU.out;unfold jc at hcon;refine hcon.mono ?_;clear hcon;rintro e y5 ⟨rfl,hd⟩;have pq:=ah (pq.out.under hd);have fU:=ah (fU.out.trans (hd.mono (aA HRR.out.2.2.2.2.2.2.2.2.2.2.2.2.2.2.2 fU.out.size)));refine hK5 _ _ (Fx.under hS hd) (fun hS5=> ?_);clear hS hd hK5 K5;refine oQ 6 fun K6 hK6=> ?_;go_simp;refine(jJ c5 5 n p _ hS5.1).mono ?_;rintro e y6 ⟨⟨hz,rfl⟩|⟨hz,rfl⟩,rfl⟩
    rotate_left
    · exact⟨rfl,.no (akA.out HZ3.out OW.out (by first|exact hz|(rw [<-Ei.out];exact hz))) (by decide) fU.out⟩
    have HZ5:Hid (c5=true):=ah (by first|exact hz|(rw [<-Ei.out];exact hz));clear hz;refine hK6 _ _ hS5 (fun hS6=> ?_);clear hS5 hK6 K6;refine wpAnyH_done (by kernel_rfl) ?_ _;have Dq:=ah hS6;clear hS6;obtain⟨U7,hU7⟩:=aqx y5;rw [<-hU7]at Dq pq fU⊢;clear hU7;go_upto_region 8 with fail
    refine wp_region_held_drew (S:=fun Y=>Fx p r2 r3 r5 n (eX x.ver a c) y Y) (by kernel_rfl) (Dq.out.under (show Below U7.heap.size U7 U7.drew from below_drewN (aC _ _) 1)) (fun hS=> ?_);obtain⟨Y0,hY0⟩:=aqx (U7.drew);rw [<-hY0]at hS⊢;have pq:=ah (show mM _ Y0 _ _ _ _ _ _ _ _ _ _ _ _ _ _ by rw [hY0];exact pq.out.drewN 1);have fU:Hid (Below B w Y0):=ah (by rw [hY0];exact below_drewN fU.out 1);clear hY0;refine tP 0 (hy:=by(intro W hW;obtain⟨z0,z1⟩:=ak (Gp.out W hW) True.intro;clear hW;go_split_ands;go_simp;(try with_reducible rfl))) ?_;refine tP 1 (v:= .agg (vec 79 (aT y))) (hy:=by(intro W hW;exact bF 63 _ rfl r5 rfl _ (aQ (hW.2.2.2) Tryz.underlying63 rfl dU))) ?_;refine oQ 2 fun K2 hK2=> ?_;go_simp;have hcon:=HC6.out _ fU.out;unfold jc at hcon;refine hcon.mono ?_;clear hcon;rintro e y2 ⟨rfl,hd⟩;have pq:=ah (pq.out.under hd);have fU:=ah (fU.out.trans (hd.mono (aA HRR.out.2.2.2.2.2.2.2.2.2.2.2.2.2.2.2 fU.out.size)));refine hK2 _ _ (Fx.under hS hd) (fun hS2=> ?_);clear hS hd hK2 K2;refine oQ 3 fun K3 hK3=> ?_;go_simp;refine(jJ c6 6 n p _ hS2.1).mono ?_;rintro e y3 ⟨⟨hz,rfl⟩|⟨hz,rfl⟩,rfl⟩
    rotate_left
    · exact⟨rfl,.no (akB.out HZ3.out OW.out HZ5.out (by first|exact hz|(rw [<-Ei.out];exact hz))) (by decide) fU.out⟩
    have HZ6:Hid (c6=true):=ah (by first|exact hz|(rw [<-Ei.out];exact hz));clear hz;refine hK3 _ _ hS2 (fun hS3=> ?_);clear hS2 hK3 K3;refine wpAnyH_done (by kernel_rfl) ?_ _;have Dq:=ah hS3;clear hS3;obtain⟨U8,hU8⟩:=aqx y2;rw [<-hU8]at Dq pq fU⊢;clear hU8;go_upto_region 9 with fail
    refine wp_region_held_drew (S:=fun Y=>Fx p r2 r3 r5 n (eX x.ver a c) y Y) (by kernel_rfl) (Dq.out.under (show Below U8.heap.size U8 U8.drew from below_drewN (aC _ _) 1)) (fun hS=> ?_);obtain⟨Y0,hY0⟩:=aqx (U8.drew);rw [<-hY0]at hS⊢;have pq:=ah (show mM _ Y0 _ _ _ _ _ _ _ _ _ _ _ _ _ _ by rw [hY0];exact pq.out.drewN 1);have fU:Hid (Below B w Y0):=ah (by rw [hY0];exact below_drewN fU.out 1);clear hY0;refine tP 0 (hy:=by(intro W hW;obtain⟨z0,z1⟩:=ak (Gp.out W hW) True.intro;clear hW;go_split_ands;go_simp;(try with_reducible rfl))) ?_;refine tP 1 (v:= .agg (vec 79 (aT y))) (hy:=by(intro W hW;exact bF 63 _ rfl r5 rfl _ (aQ (hW.2.2.2) Tryz.underlying63 rfl dU))) ?_;refine oQ 2 fun K2 hK2=> ?_;go_simp;have hcon:=HC7.out _ fU.out;unfold jc at hcon;refine hcon.mono ?_;clear hcon;rintro e y2 ⟨rfl,hd⟩;have pq:=ah (pq.out.under hd);have fU:=ah (fU.out.trans (hd.mono (aA HRR.out.2.2.2.2.2.2.2.2.2.2.2.2.2.2.2 fU.out.size)));refine hK2 _ _ (Fx.under hS hd) (fun hS2=> ?_);clear hS hd hK2 K2;refine oQ 3 fun K3 hK3=> ?_;go_simp;refine(jJ c7 7 n p _ hS2.1).mono ?_;rintro e y3 ⟨⟨hz,rfl⟩|⟨hz,rfl⟩,rfl⟩
    rotate_left
    · exact⟨rfl,.no (akC.out HZ3.out OW.out HZ5.out HZ6.out (by first|exact hz|(rw [<-Ei.out];exact hz))) (by decide) fU.out⟩
    have HZ7:Hid (c7=true):=ah (by first|exact hz|(rw [<-Ei.out];exact hz));clear hz;refine hK3 _ _ hS2 (fun hS3=> ?_);clear hS2 hK3 K3;refine wpAnyH_done (by kernel_rfl) ?_ _;have Dq:=ah hS3;clear hS3;obtain⟨U9,hU9⟩:=aqx y2;rw [<-hU9]at Dq pq fU⊢;clear hU9;go_upto_region 10 with fail
    refine wp_region_held_drew (S:=fun Y=>Fx p r2 r3 r5 n (eX x.ver a c) y Y) (by kernel_rfl) (Dq.out.under (show Below U9.heap.size U9 U9.drew from below_drewN (aC _ _) 1)) (fun hS=> ?_);obtain⟨Y0,hY0⟩:=aqx (U9.drew);rw [<-hY0]at hS⊢;have pq:=ah (show mM _ Y0 _ _ _ _ _ _ _ _ _ _ _ _ _ _ by rw [hY0];exact pq.out.drewN 1);have fU:Hid (Below B w Y0):=ah (by rw [hY0];exact below_drewN fU.out 1);clear hY0;refine tP 0 (hy:=by(intro W hW;obtain⟨z0,z1⟩:=ak (Gp.out W hW) True.intro;clear hW;go_split_ands;go_simp;(try with_reducible rfl))) ?_;refine tP 1 ?_;refine tP 2 (hy:=by(intro W hW;obtain⟨z0,z1⟩:=ak (Gp.out W hW) True.intro;clear hW;go_split_ands;go_simp;(try with_reducible rfl))) ?_;refine tP 3 ?_;refine oQ 4 fun K4 hK4=> ?_;go_simp;refine(HC8.out _ pq.out fU.out hS).mono ?_;rintro e y4 ⟨r,rfl,hre,hsv,hset⟩;have Ei:=ah hre;have zH:=ah hset;have fU:=ah (fU.out.trans (hsv.below HRR.out.2.2.2.2.2.2.2.2.2.2.2.2.2.1 (aA HRR.out.2.2.2.2.2.2.2.2.2.2.2.2.2.2.2 fU.out.size)));refine hK4 _ _ (Fx.save hS hsv HRR.out.2.2.2.2.2.2.2.2.2.2.1 HRR.out.2.2.2.1 HRR.out.2.2.2.2.1 HRR.out.2.2.2.2.2.1) (fun hS4=> ?_);clear hS hre hsv hset hK4 K4;refine oQ 5 fun K5 hK5=> ?_;go_simp;refine(jJ r 8 n p _ hS4.1).mono ?_;rintro e y5 ⟨⟨hz,rfl⟩|⟨hz,rfl⟩,rfl⟩
    rotate_left
    · exact⟨rfl,.no (akD.out HZ3.out OW.out HZ5.out HZ6.out HZ7.out (by first|exact hz|(rw [<-Ei.out];exact hz))) (by decide) fU.out⟩
    have HZ8:Hid (c8=true):=ah (by first|exact hz|(rw [<-Ei.out];exact hz));have pq:=ah (zH.out hz);clear zH Ei;clear hz;refine hK5 _ _ hS4 (fun hS5=> ?_);clear hS4 hK5 K5;refine wpAnyH_done (by kernel_rfl) ?_ _;have Dq:=ah hS5;clear hS5;obtain⟨U10,ahT⟩:=aqx y4;rw [<-ahT]at Dq pq fU⊢;clear ahT;go_upto_region 11 with fail
    refine wp_region_held_drew (S:=fun Y=>Fx p r2 r3 r5 n (eX x.ver a c) y Y) (by kernel_rfl) (Dq.out.under (show Below U10.heap.size U10 U10.drew from below_drewN (aC _ _) 1)) (fun hS=> ?_);obtain⟨Y0,hY0⟩:=aqx (U10.drew);rw [<-hY0]at hS⊢;have pq:=ah (show mM _ Y0 _ _ _ _ _ _ _ _ _ _ _ _ _ _ by rw [hY0];exact pq.out.drewN 1);have fU:Hid (Below B w Y0):=ah (by rw [hY0];exact below_drewN fU.out 1);clear hY0;refine tP 0 (hy:=by(intro W hW;obtain⟨z0,z1⟩:=ak (Gp.out W hW) True.intro;clear hW;go_split_ands;go_simp;(try with_reducible rfl))) ?_;refine tP 1 ?_;refine tP 2 (hy:=by(intro W hW;obtain⟨z0,z1⟩:=ak (Gp.out W hW) True.intro;clear hW;go_split_ands;go_simp;(try with_reducible rfl))) ?_;refine tP 3 (hy:=by(intro W hW;obtain⟨z0,z1⟩:=ak (Gp.out W hW) True.intro;clear hW;go_split_ands;go_simp;(try with_reducible rfl))) ?_;refine tP 4 ?_;refine oQ 5 fun K5 hK5=> ?_;go_simp;refine(HC9.out _ pq.out fU.out).mono ?_;rintro e y5 ⟨r,rfl,hre,hsv,hset⟩;have Ei:=ah hre;have zH:=ah hset;have fU:=ah (fU.out.trans (hsv.below HRR.out.2.2.2.2.2.2.2.2.2.2.2.2.2.2.1 (aA HRR.out.2.2.2.2.2.2.2.2.2.2.2.2.2.2.2 fU.out.size)));refine hK5 _ _ (Fx.save hS hsv HRR.out.2.2.2.2.2.2.2.2.2.2.2.1 HRR.out.2.2.2.2.2.2.1 HRR.out.2.2.2.2.2.2.2.1 HRR.out.2.2.2.2.2.2.2.2.1) (fun hS5=> ?_);clear hS hre hsv hset hK5 K5;refine oQ 6 fun K6 hK6=> ?_;go_simp;refine(jJ r 9 n p _ hS5.1).mono ?_;rintro e y6 ⟨⟨hz,rfl⟩|⟨hz,rfl⟩,rfl⟩
    rotate_left
    · exact⟨rfl,.no (akE.out HZ3.out OW.out HZ5.out HZ6.out HZ7.out HZ8.out (by first|exact hz|(rw [<-Ei.out];exact hz))) (by decide) fU.out⟩
    have HZ9:Hid (c9=true):=ah (by first|exact hz|(rw [<-Ei.out];exact hz));have pq:=ah (zH.out hz);clear zH Ei;clear hz;refine hK6 _ _ hS5 (fun hS6=> ?_);clear hS5 hK6 K6;refine wpAnyH_done (by kernel_rfl) ?_ _;have Dq:=ah hS6;clear hS6;obtain⟨U11,ahU⟩:=aqx y5;rw [<-ahU]at Dq pq fU⊢;clear ahU;go_upto_region 12 with fail
    refine wp_region_held_drew (S:=fun Y=>Fx p r2 r3 r5 n (eX x.ver a c) y Y) (by kernel_rfl) (Dq.out.under (show Below U11.heap.size U11 U11.drew from below_drewN (aC _ _) 1)) (fun hS=> ?_);obtain⟨Y0,hY0⟩:=aqx (U11.drew);rw [<-hY0]at hS⊢;have pq:=ah (show mM _ Y0 _ _ _ _ _ _ _ _ _ _ _ _ _ _ by rw [hY0];exact pq.out.drewN 1);have fU:Hid (Below B w Y0):=ah (by rw [hY0];exact below_drewN fU.out 1);clear hY0;refine tP 0 (hy:=by(intro W hW;obtain⟨z0,z1⟩:=ak (Gp.out W hW) True.intro;clear hW;go_split_ands;go_simp;(try with_reducible rfl))) ?_;refine tP 1 (hy:=by(intro W hW;obtain⟨z0,z1⟩:=ak (Gp.out W hW) True.intro;clear hW;go_split_ands;go_simp;(try with_reducible rfl))) ?_;refine tP 2 (v:= .agg (vec 3 (eX x.ver a c))) (hy:=by(intro W hW;exact bF 31 _ rfl r3 rfl _ (aQ (hW.2.2.1) Tryz.underlying31 rfl dR))) ?_;refine tP 3 ?_;refine oQ 4 fun K4 hK4=> ?_;go_simp;refine(akH.out _ fU.out).mono ?_;rintro e y4 ⟨v,rfl,hov,hd⟩;obtain⟨A9,c9v,rfl,-,hrow,-⟩:=hov.form;have ahV:=ah hrow;have pq:=ah (pq.out.under hd);have fU:=ah (fU.out.trans (hd.mono (aA HRR.out.2.2.2.2.2.2.2.2.2.2.2.2.2.2.2 fU.out.size)));refine hK4 _ _ (Fx.under hS hd) (fun hS4=> ?_);clear hS hd hov hrow hK4 K4;refine oQ 5 fun K5 hK5=> ?_;go_simp;refine(HOWN.out _ _ _ pq.out fU.out hS4 ahV.out).mono ?_;rintro e y5 ⟨rfl,hk,hfx,hbb⟩;have pq:=ah hk;have fU:=ah (fU.out.trans hbb);refine hK5 _ _ hfx (fun hS5=> ?_);clear hS4 hk hfx hbb hK5 K5;refine oQ 6 fun K6 hK6=> ?_;go_simp;refine(jJ c10 10 n p _ hS5.1).mono ?_;rintro e y6 ⟨⟨hz,rfl⟩|⟨hz,rfl⟩,rfl⟩
    rotate_left
    · exact⟨rfl,.no (ahR.out HZ3.out OW.out HZ5.out HZ6.out HZ7.out HZ8.out HZ9.out (by first|exact hz|(rw [<-Ei.out];exact hz))) (by decide) fU.out⟩
    have akJ:Hid (c10=true):=ah (by first|exact hz|(rw [<-Ei.out];exact hz));clear hz;refine hK6 _ _ hS5 (fun hS6=> ?_);clear hS5 hK6 K6;refine wpAnyH_done (by kernel_rfl) ?_ _;have Dq:=ah hS6;clear hS6;obtain⟨U12,ahW⟩:=aqx y5;rw [<-ahW]at Dq pq fU⊢;clear ahW;go_wp2_with fail
    go_roundw
    case rel=>exact⟨n+1,by omega,by go_num,ah ⟨⟨_,pq.out.wide (by omega)⟩,fU.out,je.out HZ3.out OW.out HZ5.out HZ6.out HZ7.out HZ8.out HZ9.out akJ.out,Dq.out.2.1,Dq.out.2.2.1⟩⟩
    case measure=>simp [intOf];omega
  · obtain rfl:n=NG:=by omega
    go_wp2_with fail
    go_end0;have hR:=HR.out;rw [ahP.out]at hR;obtain⟨⟨wh,hk⟩,hB,hU,-,-⟩:=hR;exact .yes hU ⟨wh,_,by have:=J8.out;have:=ahP.out;omega,hk⟩ hB
open Go.RowKit
attribute [local go_sem ↓ high] gZ
attribute [local go_sem ↓ high] Fp zC
def Qk(l:List Rk)(i:Nat):Bool:=match l[i-1]?,l[i]? with
 |some x,some y=>decide (i=0)|| !overlap (lC x.m) (lC y.m)
 |_,_=>true
def apartB(l:List Rk):Bool:=(List.range l.length).all (Qk l)
theorem Jk(l:List Rk):Qk l 0=true:=by
 unfold Qk;cases l with
 |nil=>rfl
 |cons x l=>rfl
theorem Dt{l:List Rk}{i:Nat}(h:i+1<l.length):Qk l (i+1)= !overlap (lC (l[i]'(by omega)).m) (lC l[i+1].m):=by
 unfold Qk;rw [Nat.add_sub_cancel,aF (show i<l.length by omega),aF h];simp
theorem Yl{l:List Rk}(hb:∀y∈l,Cj y.m)(hg:∀y∈l,JO y.m=true)(hs:yY l):apartB l=Ej (l.map Rk.m):=by
 rw [Bool.eq_iff_iff,yx];unfold apartB;rw [vI]
 constructor
 · intro h
   refine⟨fun x hx=> ?_, ?_⟩
   · obtain⟨y,hy,rfl⟩:=List.mem_map.1 hx
     exact hg y hy
   · have hstep:∀i (hi:i+1<l.length),(l[i]'(by omega)).m.fZ+(l[i]'(by omega)).m.size<=l[i+1].m.fZ/\ 0< (l[i]'(by omega)).m.size:=fun i hi=>by
      have h1:=h (i+1) hi;rw [Dt hi]at h1;have h2:=List.pairwise_iff_getElem.1 hs i (i+1) (by omega) hi (by omega);exact SL (hb _ (ay _)) (hb _ (ay _)) (hg _ (ay _)) (hg _ (ay _)) (by simpa using h1) h2
     have akK:∀d i (hi:i+d+1<l.length),(l[i]'(by omega)).m.fZ+(l[i]'(by omega)).m.size<=(l[i+d+1]'hi).m.fZ:=by
      intro d
      induction d with
      |zero=>intro i hi;exact(hstep i hi).1
      |succ d ih=>
       intro i hi;have h1:=ih i (by omega);have h2:=hstep (i+d+1) (by omega);have e:l[i+(d+1)+1]=l[i+d+1+1]:=(by congr 1);rw [e];omega
     rw [List.pairwise_iff_getElem];intro i j hi hj hij;rw [List.length_map]at hi hj;rw [List.getElem_map,List.getElem_map];have h1:=akK (j-i-1) i (by omega);have e:l[i+(j-i-1)+1]'(by omega)=l[j]:=(by congr 1;omega);rw [e]at h1;have b1:=hb _ (ay hi);have b2:=hb _ (ay hj);rw [<-Bool.not_eq_true,jd];rintro⟨_,_,h3,h4⟩;have z1:=b1.fZ.1;have z2:=b1.size.1;have z3:=b2.fZ.1;unfold lC at h3 h4;simp only at h3 h4;have g1:=hg _ (ay hi);unfold JO at g1;rw [Bool.and_eq_true]at g1;have g2:=(iq _).1 g1.1;unfold lC at g2;simp only at g2;omega
 · rintro⟨_,h⟩ i hi
   cases i with
   |zero=>exact Jk l
   |succ i=>
     rw [Dt hi];have:=List.pairwise_iff_getElem.1 h i (i+1) (by rw [List.length_map];omega) (by rw [List.length_map];omega) (by omega);rw [List.getElem_map,List.getElem_map]at this;rw [this];rfl
theorem bI.atM{w:World}{A:Option Addr}{l:List Rk}(h:bI 6 tq w w.heap.size A l){k:Nat}(hk:k<l.length):∃a p,A=some a/\ a.add (k*6)=p/\ ∀Y,Below w.heap.size w Y->∀i,i<5->Y.cell? (p.add i)=some (kK l[k].m i):=by
 obtain⟨a,p,e1,e2,e3,e4⟩:=h.at hk;refine⟨a,p,e1,e2,fun Y hY i hi=> ?_⟩;rw [hY.cell (p:=p.add i) (by rw [dA];exact e3),e4 i (by omega)];rcases(by omega:i=0∨i=1∨i=2∨i=3∨i=4)with rfl|rfl|rfl|rfl|rfl<;>rfl
theorem Vh(l:List Rk)(A:Option Addr)(c:Nat)(w:World)(hb:∀y∈l,Cj y.m)(hr:bI 6 tq w w.heap.size A l)(hl:l.length<=1000000):Calls Tryz.prog 99 #[.slice A l.length c] w (jc (apartB l) w):=by
 obtain⟨N,hN⟩:=aqx (l.length);have HN:=ah hN;have HR:=ah hr;have HB:=ah hb;have hNl:N<=1000000:=(by omega);have HA:Hid ((List.range N).all (Qk l)=apartB l):=ah (by rw [hN];rfl)
 generalize apartB l=q at HA⊢
 unfold jc;rw [<-hN];clear hN hr hb hl;go_enter Tryz.func99,Tryz.ntmps99;go_wp2
 go_loopw [3] (fun v W=>∃k:Nat,v= .int .i64 k/\ 1<=k/\ k<=N+1/\ Hid ((List.range (min k N)).all (Qk l)=true)/\ Hid (Below w.heap.size w W)) (fun v _=>N+1-(intOf v).toNat)
 case atStart=>exact⟨1,by first|rfl|go_num,aj _,by omega,ah (by
  rw [vI];intro i hi;obtain rfl:i=0:=by omega
  exact Jk l),ah (aC _ _)⟩
 case round=>
  obtain⟨k,rfl,hk1,hkN,HQ,Jl⟩:=hrel;obtain⟨V,hV⟩:=aqx wr;subst hV;by_cases hlt:k<N
  · have hlz:(k:Int)< (N:Int):=by omega
    obtain⟨m,rfl⟩:∃m,k=m+1:=⟨k-1,by omega⟩;have hmN:m+1<l.length:=(by rw [<-HN.out];exact hlt);obtain⟨a1,p1,ea,hp1,hc1⟩:=(HR.out.up Jl.out).atM (k:=m) (by omega);subst ea;obtain⟨a2,p2,ea,hp2,hc2⟩:=(HR.out.up Jl.out).atM (k:=m+1) hmN;injection ea with ea
    subst ea;obtain⟨x,hx⟩:=aqx (l[m]);obtain⟨y,hy⟩:=aqx (l[m+1]);have hbx:Cj x.m:=(by rw [hx];exact HB.out _ (ay _));have hby:Cj y.m:=(by rw [hy];exact HB.out _ (ay _));have hap:=Dt hmN;rw [<-hx, <-hy]at hap;rw [<-hx]at hc1;rw [<-hy]at hc2;obtain⟨o,ho⟩:=aqx (overlap (lC x.m) (lC y.m));have uq:=ah (fun W=>Fv x.m hbx W);have HS2:=ah (fun W=>Fv y.m hby W);have Kq:=ah (fun W=>Ym (lC x.m) (lC y.m) (Az hbx) (Az hby) W);rw [<-ho]at Kq hap;unfold jc at Kq;have Eh:=ah hc1;have HC2:=ah hc2;have HAP:=ah hap;have wm:IntKind.i64.wrap (((m+1:Nat):Int)-1)=(m:Int):=(by rw [IntKind.wrap_i64]<;>omega);have wm2:IntKind.i64.wrap ((m:Int)+1-1)=(m:Int):=(by rw [IntKind.wrap_i64]<;>omega);have wm3:IntKind.i64.wrap (m:Int)=(m:Int):=(by rw [IntKind.wrap_i64]<;>omega);have hmz:(m:Int)< (N:Int):=(by omega);have hm0:(0:Int)<=(m:Int):=(by omega);have hmt:((m:Int)).toNat=m:=(by omega);have hm1:(0:Int)<=(m:Int)+1:=(by omega);have aon:((m:Int)+1).toNat=m+1:=(by omega);have aoo:(m:Int)+1< (N:Int):=(by omega);have hmin:min (m+1) N=m+1:=(by omega);have akL:=ah hmin;have FH:=ah hmN;clear hc1 hc2 hap ho hx hy hbx hby hmN hmin;cases o
    · go_upto_region 4 with fail
      refine wp_region_held_drew (S:=fun Y=>VS V Y) (by kernel_rfl) (VS.begin V) (fun hS=> ?_);refine tA 0 ?_;refine tA 1 ?_;refine tA 2 ?_;refine tP 3 (hy:=by(intro W hW;clear hW;go_simp;(try with_reducible rfl);(try(intro h;omega)))) ?_;refine tA 4 ?_;refine tP 5 (v:= .agg (vec 5 (kK x.m))) (hy:=by(intro W hW;exact dI 87 _ rfl p1 (by first|rfl|(simp;done)) _ (aW (Eh.out W (show Below V.heap.size V W from hW)) Tryz.underlying87 rfl lN))) ?_;refine tA 7 ?_;refine tA 8 ?_;refine tP 9 (hy:=by(intro W hW;clear hW;go_simp;(try with_reducible rfl);(try(intro h;omega)))) ?_;refine tA 10 ?_;refine tP 11 (v:= .agg (vec 5 (kK y.m))) (hy:=by(intro W hW;exact dI 87 _ rfl p2 (by first|rfl|(simp;done)) _ (aW (HC2.out W (show Below V.heap.size V W from hW)) Tryz.underlying87 rfl lN))) ?_;refine oQ 6 fun K6 hK6=> ?_;go_simp;refine(uq.out _).mono ?_;rintro e y6 ⟨rfl,hd⟩;refine hK6 _ _ ((show VS V _ from hS).keep hd) (fun hS6=> ?_);clear hd hS hK6 K6;refine oQ 12 fun wU jk=> ?_;go_simp;refine(HS2.out _).mono ?_;rintro e OU ⟨rfl,hd⟩;refine jk _ _ ((show VS V _ from hS6).keep hd) (fun jl=> ?_);clear hd hS6 jk wU;refine oQ 13 fun wV jm=> ?_;go_simp;refine(Kq.out _).mono ?_;rintro e y13 ⟨rfl,hd⟩;refine jm _ _ ((show VS V _ from jl).keep hd) (fun lu=> ?_);clear hd jl jm wV;refine wpAnyH_done (by kernel_rfl) ?_ _;have HS:=ah (show Below V.heap.size V _ from lu);clear lu;go_wp2_with fail
      go_roundw
      case rel=>exact⟨m+1+1,by go_num,by omega,by omega,ah (by rw [show min (m+1+1) N=min (m+1) N+1 by omega];refine Gt HQ.out ?_;rw [akL.out];exact HAP.out),ah (Jl.out.trans (HS.out.mono Jl.out.size))⟩
      case measure=>simp [intOf];omega
    · go_upto_region 4 with fail
      refine wp_region_held_drew (S:=fun Y=>VS V Y) (by kernel_rfl) (VS.begin V) (fun hS=> ?_);refine tA 0 ?_;refine tA 1 ?_;refine tA 2 ?_;refine tP 3 (hy:=by(intro W hW;clear hW;go_simp;(try with_reducible rfl);(try(intro h;omega)))) ?_;refine tA 4 ?_;refine tP 5 (v:= .agg (vec 5 (kK x.m))) (hy:=by(intro W hW;exact dI 87 _ rfl p1 (by first|rfl|(simp;done)) _ (aW (Eh.out W (show Below V.heap.size V W from hW)) Tryz.underlying87 rfl lN))) ?_;refine tA 7 ?_;refine tA 8 ?_;refine tP 9 (hy:=by(intro W hW;clear hW;go_simp;(try with_reducible rfl);(try(intro h;omega)))) ?_;refine tA 10 ?_;refine tP 11 (v:= .agg (vec 5 (kK y.m))) (hy:=by(intro W hW;exact dI 87 _ rfl p2 (by first|rfl|(simp;done)) _ (aW (HC2.out W (show Below V.heap.size V W from hW)) Tryz.underlying87 rfl lN))) ?_;refine oQ 6 fun K6 hK6=> ?_;go_simp;refine(uq.out _).mono ?_;rintro e y6 ⟨rfl,hd⟩;refine hK6 _ _ ((show VS V _ from hS).keep hd) (fun hS6=> ?_);clear hd hS hK6 K6;refine oQ 12 fun wU jk=> ?_;go_simp;refine(HS2.out _).mono ?_;rintro e OU ⟨rfl,hd⟩;refine jk _ _ ((show VS V _ from hS6).keep hd) (fun jl=> ?_);clear hd hS6 jk wU;refine oQ 13 fun wV jm=> ?_;go_simp;refine(Kq.out _).mono ?_;rintro e y13 ⟨rfl,hd⟩;refine jm _ _ ((show VS V _ from jl).keep hd) (fun lu=> ?_);clear hd jl jm wV;refine wpAnyH_done (by kernel_rfl) ?_ _;have HS:=ah (show Below V.heap.size V _ from lu);clear lu;have HF:=ah (show q=false by rw [<-HA.out];exact Jm (k:=m+1) hlt HAP.out);go_wp2_with fail
      (try simp only [Exit.inBlock,Exit.then])
      go_ret;exact⟨by rw [HF.out];rfl,Jl.out.trans (HS.out.mono Jl.out.size)⟩
  · have hlz:¬ (k:Int)< (N:Int):=by omega
    have HF:=ah (show q=true by rw [<-HA.out];have h:=HQ.out;rwa [show min k N=N by omega]at h);go_wp2_with fail
    go_ret;exact⟨by rw [HF.out];rfl,Jl.out⟩
theorem Vj(l:List Rk){k:Nat}(h:k<l.length):(l.take (k+1)).map Rk.m=(l.take k).map Rk.m++ [l[k].m]:=by
 rw [aO h,List.map_append];rfl
theorem Yn(l:List Rk)(A:Option Addr)(c:Nat)(w:World)(hr:bI 6 tq w w.heap.size A l)(hl:l.length<=1000000):Calls Tryz.prog 100 #[.slice A l.length c] w fun e w'=>∃v,e= .returned v/\ qL w' w.heap.size v (l.map Rk.m)/\ Below w.heap.size w w':=by
 obtain⟨N,hN⟩:=aqx (l.length);have HN:=ah hN;have HR:=ah hr;have hNl:N<=1000000:=(by omega);rw [<-hN];clear hN hr hl;go_enter Tryz.func100,Tryz.ntmps100;go_wp2
 go_loopw [3,8] (fun s v W=>∃ (k e:Nat) (B:Option Addr),k<=N/\ v= .int .i64 k/\ s= .slice B k e/\ Hid (qL W w.heap.size (.slice B k e) ((l.take k).map Rk.m))/\ Hid (Below w.heap.size w W)) (fun _ v _=>N-(intOf v).toNat)
 case atStart=>exact⟨0,0,none,aB _,rfl,rfl,ah (gW.nil _ _),ah (aC _ _)⟩
 case round=>
  obtain⟨k,e,B,hk,rfl,rfl,HO,HB⟩:=hrel;obtain⟨V,hV⟩:=aqx wr;subst hV;by_cases hlt0:k<N
  · have hlt:k<l.length:=by rw [<-HN.out];exact hlt0
    obtain⟨b0,p,ea,hp,-,hcp⟩:=(HR.out.up HB.out).at hlt;obtain⟨y,hy⟩:=aqx (l[k]);rw [<-hy]at hcp;have hki:(k:Int)< (N:Int):=(by omega);obtain⟨r,hr⟩:=aqx (V.heap.size);obtain⟨X,hX⟩:=aqx ((V.alloc (.cells (vec 6 (tq zRk)) 145)).setRow V.heap.size (vec 6 (tq y)));have b1:Below V.heap.size V X:=(by rw [hX];exact bg ((aC _ _).alloc (aj _) _) (aj _) _);have a1:aU X r 145 6 (tq y):=(by rw [hX,hr];exact(aU.new V _ _ _).row _);have hm5:∀i,i<5->X.cell? ((⟨r,0,none⟩:Addr).add i)=some (kK y.m i):=fun i hi=>by
     rw [lF,Nat.zero_add,a1.cell (by omega)];rcases(by omega:i=0∨i=1∨i=2∨i=3∨i=4)with rfl|rfl|rfl|rfl|rfl<;>rfl
    have fU:=ah (HB.out.trans (b1.mono HB.out.size));have HOX:=ah (gW.on HO.out b1 (aj _));have hlen:((l.take k).map Rk.m).length=k:=(by rw [List.length_map,List.length_take];omega);obtain⟨B4,e4,w4,hrun,DW,hb4⟩:=abW (P:=Tryz.prog) Tryz.underlying48 xQ (iR _ _) (by decide) (fun x=>Aq x 5) y.m HOX.out fU.out.size (by rw [hlen];omega) (by decide) 48;have hsn:=Vj l hlt;rw [<-hy]at hsn;rw [hlen, <-hsn]at DW;rw [hlen]at hrun;have hbs:=yA y.m X;have HO4:=ah DW;have HB4:=ah (fU.out.trans hb4);have gI:=ah hcp;have HX:=ah hX;have HRR:=ah hr;have HM5:=ah hm5;subst ea;clear hcp hlt hr hX b1 a1 hy DW hb4 hm5 hlen hsn;go_upto_region 5 with(first
     |((with_reducible refine aqy (.load _ _) ?_);refine bC rfl 145 _ rfl p rfl _ (aW gI.out Tryz.underlying145 rfl zF) ?_)
     |((with_reducible refine aqy (.store _ _ _) ?_);refine bD rfl 145 _ _ rfl _ rfl _ rfl (aS (aU.new V _ _ _) (tq y) zF (EH _ _)) ?_))
    rw [<-HX.out, <-HRR.out];clear HX gI HRR;go_wp2_with(first
     |((with_reducible refine aqy (.load 87 _) ?_);refine bC rfl 87 _ rfl ⟨r,0,none⟩ rfl _ (aW HM5.out Tryz.underlying87 rfl lN) ?_)
     |((with_reducible refine aqy (.buildSlice _ _ _) ?_);refine uP rfl _ rfl (.agg (vec 5 (kK y.m))) rfl hbs ?_))
    go_roundw
    case rel=>exact⟨k+1,e4,B4,by omega,by go_num,rfl,HO4,HB4⟩
    case measure=>simp [intOf];omega
  · obtain rfl:k=N:=by omega
    go_wp2_with fail
    go_ret;exact⟨_,rfl,by have h:=HO.out;rw [HN.out,List.take_length]at h;rw [HN.out];exact h,HB.out⟩
open Go.RowKit
attribute [local go_sem ↓ high] nK
theorem Yo{t:Gs}{dH:List Ch}{g:Int}(hw:∀y∈t.wins,KW y)(hd:∀y∈t.dG,W9 y)(hc:∀y∈dH,Ui y):∀y∈mQ t dH g,Cj y.m:=fun y hy=>by
 have h:y.m∈kY t dH g:=(by rw [<-Ez];exact List.mem_map.2 ⟨y,hy,rfl⟩);exact SQ hw hd hc _ ((o8 _).mem_iff.2 h)
theorem Yp{t:Gs}{dH:List Ch}{g:Int}(h:(mQ t dH g).all (fun y=>JO y.m)=false):Ej (pG (kY t dH g))=false:=by
 rw [<-Bool.not_eq_true,xR (o8 _),yx];rintro⟨h1,-⟩;rw [<-Bool.not_eq_true,List.all_eq_true]at h;refine h fun y hy=>h1 _ ?_;rw [<-Ez];exact List.mem_map.2 ⟨y,hy,rfl⟩
theorem Yq{r:List Rk}(h:yY r):Sorted (r.map Rk.m):=by
 unfold Sorted;rw [List.pairwise_map];exact h
theorem aa0{t:Gs}{dH:List Ch}{g:Int}{r:List Rk}(hB:∀y∈mQ t dH g,Cj y.m)(hg:(mQ t dH g).all (fun y=>JO y.m)=true)(hp:r.Perm (mQ t dH g))(hs:yY r):
  apartB r=Ej (pG (kY t dH g))/\ (apartB r=true->r.map Rk.m=pG (kY t dH g)):=by
 have hm:(r.map Rk.m).Perm (kY t dH g):=(by rw [<-Ez];exact hp.map _);have h1:apartB r=Ej (r.map Rk.m):=Yl (fun y hy=>hB y (hp.mem_iff.1 hy)) (fun y hy=>List.all_eq_true.1 hg y (hp.mem_iff.1 hy)) hs;have h2:Ej (r.map Rk.m)=Ej (kY t dH g):=xR hm;refine⟨by rw [h1,h2,xR (o8 _)],fun h=> ?_⟩;refine NY (fun z hz=> ?_) hm (Yq hs) (by rw [<-h2, <-h1];exact h);rw [<-Ez]at hz;obtain⟨y,hy,rfl⟩:=List.mem_map.1 hz;exact hB y hy
theorem Yr:Yt:=fun x a c g w hx hb hf=>by
 obtain⟨q0,hq0⟩:=aqx (w.heap.size);obtain⟨V,hV⟩:=aqx (w.alloc (.cells (vec 3 (eX x.ver a c)) 31));have k1:aU V q0 31 3 (eX x.ver a c):=(by rw [hV,hq0];exact aU.new w _ _ _);have hB:Below w.heap.size w V:=(by rw [hV];exact(aC _ _).alloc (aj _) _);obtain⟨A,d,A2,d2,rfl,rfl,hch,hgu⟩:=xG hx;have HV:=ah hV;have OX:=ah hq0;have HB:=ah hB;have HK:=ah k1;have HX:=ah hx;have JL:=ah hb;have HF:=ah hf;obtain⟨Q,hQ⟩:=aqx (SS (oh x g) w);have HQE:Hid (∀ (n:Nat) (W:World),oh x g= .error n->Below w.heap.size w W->Q (.returned (.tuple #[.slice none 0 0,.int .i64 (n:Int)])) W):=ah (fun n W h1 h2=>by rw [hQ];unfold SS;rw [h1];exact⟨none,0,rfl,h2⟩);have HQO:Hid (∀ (l:List Mp) (v:Value) (W:World),oh x g= .ok l->qL W w.heap.size v l->Below w.heap.size w W->Q (.returned (.tuple #[v,.int .i64 0])) W):=ah (fun l v W h1 h2 h3=>by rw [hQ];unfold SS;rw [h1];exact⟨v,rfl,h2,h3⟩);obtain⟨NG,xu⟩:=aqx (x.gs.length);obtain⟨NC,JM⟩:=aqx (x.dH.length);have RG:=ah (fun W=>IJ x.ver A NG d (.slice A2 NC d2) g W);rw [<-hQ];unfold ji;rw [<-xu, <-JM]at HK HV⊢;unfold jc at RG;by_cases hno:g<0∨(x.gs.length:Int)<=g
 · have hm:oh x g= .error 1:=by unfold oh;rw [vW hno]
   rw [<-xu]at hno;rw [IK hno]at RG;have HM:=ah hm;clear hx hb hf hV hq0 k1 hB hQ hch hgu hno hm xu JM;go_enter Tryz.func56,Tryz.ntmps56;go_upto_region 1 with fail
   rw [<-HV.out, <-OX.out];clear HV OX;go_wp2_with(first
     |((with_reducible refine aqz 8 (.load 31 _) ?_);refine bM rfl 31 _ rfl q0 rfl _ (aQ HK.out Tryz.underlying31 rfl dR) ?_)
     |(go_at_call 97;refine(RG.out _).mono ?_;rintro e w1 ⟨rfl,hd⟩;have HD1:=ah hd;clear hd))
   exact HQE.out 1 _ HM.out (HB.out.trans (HD1.out.mono HB.out.size))
 · obtain⟨i,rfl⟩:=au (show 0<=g by omega)
   have hi:i<x.gs.length:=(by omega);have hga:=mJ hi;rw [Fq (by omega)]at RG;have hgb:=hb.gs _ (ay hi);obtain⟨t,ht⟩:=aqx (x.gs[i]);rw [<-ht]at hga hgb;have hpg:fP x (i:Int)=mQ t x.dH (i:Int):=(by unfold fP;rw [hga]);have hpb:=Yo (t:=t) (dH:=x.dH) (g:=(i:Int)) hgb.wins hgb.dG hb.dH;have hmp:oh x (i:Int)=if Ej (pG (kY t x.dH (i:Int)))=true then .ok (pG (kY t x.dH (i:Int)))else .error 160:=(by unfold oh;rw [hga])
   have hpl:=zM (i:Int) hf;have Le:Hid (∀W,Below V.heap.size V W->Calls Tryz.prog 98 #[.agg (vec 3 (eX x.ver (.slice A NG d) (.slice A2 NC d2))),.int .i64 (i:Int)] W (Jh x (i:Int) W)):=ah fun W hW=>by
     have h:=J5 x _ _ (i:Int) W (hx.up (hB.trans (hW.mono hB.size))) hb hf;unfold ji at h;rw [<-xu, <-JM]at h;exact h
   have xw:=ah hpg;have HPB:=ah hpb;have HMP:=ah hmp;have SI:=ah hpl;obtain⟨b,hgd⟩:=aqx (D5 x (i:Int));unfold Jh at Le;rw [<-hgd]at Le;have Ld:=ah hgd;clear hx hb hf hV hq0 k1 hB hQ hch hgu hno xu JM hi hga hgb ht hpg hpb hmp hpl hgd;cases b
   · have hno:=Yp (t:=t) (dH:=x.dH) (g:=(i:Int)) (by rw [<-xw.out];exact Ld.out.symm)
     have HM:Hid (oh x (i:Int)= .error 160):=ah (by rw [HMP.out,hno];rfl);clear hno;go_enter Tryz.func56,Tryz.ntmps56;go_upto_region 1 with fail
     rw [<-HV.out, <-OX.out];clear HV OX;go_wp2_with(first
       |((with_reducible refine aqz 8 (.load 31 _) ?_);refine bM rfl 31 _ rfl q0 rfl _ (aQ HK.out Tryz.underlying31 rfl dR) ?_)
       |((with_reducible refine aqz 13 (.load 31 _) ?_);refine bM rfl 31 _ rfl q0 rfl _ (aQ (HK.out.under HD1.out) Tryz.underlying31 rfl dR) ?_)
       |(go_at_call 97;refine(RG.out _).mono ?_;rintro e w1 ⟨rfl,hd⟩;have HD1:=ah hd;clear hd)
       |(go_at_call 98;refine(Le.out _ HD1.out).mono ?_;intro e w2 hg;rw [if_neg (by decide)]at hg;obtain⟨rfl,hd⟩:=hg;have HD2:=ah (HD1.out.trans (hd.mono HD1.out.size));clear hd Le))
     exact HQE.out 160 _ HM.out (HB.out.trans (HD2.out.mono HB.out.size))
   · have ah0:=ah (fun W hW=>(Le.out W hW).mono (fun e w' h=>(show(∃ (v:Value) (r:List Rk),e= .returned (.tuple #[v,.bool true])/\ r.Perm (fP x (i:Int))/\ yY r/\ Au w' W.heap.size v r/\ Below W.heap.size W w') by simpa using h)))
     clear Le;have ah1:Hid (∀r:List Rk,r.Perm (fP x (i:Int))->yY r->apartB r=Ej (pG (kY t x.dH (i:Int)))/\ (apartB r=true->r.map Rk.m=pG (kY t x.dH (i:Int)))):=(ah fun r h1 h2=>aa0 HPB.out (by rw [<-xw.out];exact Ld.out.symm) (by rw [<-xw.out];exact h1) h2);go_enter Tryz.func56,Tryz.ntmps56;go_upto_region 1 with fail
     rw [<-HV.out, <-OX.out];clear HV OX;go_upto_region 4 with(first
       |((with_reducible refine aqz 8 (.load 31 _) ?_);refine bM rfl 31 _ rfl q0 rfl _ (aQ HK.out Tryz.underlying31 rfl dR) ?_)
       |((with_reducible refine aqz 13 (.load 31 _) ?_);refine bM rfl 31 _ rfl q0 rfl _ (aQ (HK.out.under HD1.out) Tryz.underlying31 rfl dR) ?_)
       |(go_at_call 97;refine(RG.out _).mono ?_;rintro e w1 ⟨rfl,hd⟩;have HD1:=ah hd;clear hd)
       |(go_at_call 98;refine(ah0.out _ HD1.out).mono ?_;rintro e w2 ⟨v,r,rfl,hp,hs,ho,hd⟩;have HD2:=ah (HD1.out.trans (hd.mono HD1.out.size));have HR:=ah (ak hp (ak hs ho));clear hd hp hs ho ah0))
     obtain⟨h1,h2⟩:=ah1.out r HR.out.1 HR.out.2.1;obtain⟨B,e4,rfl,-,hrow,-⟩:=HR.out.2.2.form;have hrl:r.length<=1000000:=(by rw [HR.out.1.length_eq];have:=SI.out;omega);have HRL:=ah hrl;have wY:=ah hrow;have aa1:=ah (Vh r B e4 w2 (fun y hy=>HPB.out y (by rw [<-xw.out];exact HR.out.1.mem_iff.1 hy)) hrow hrl);obtain⟨ab,hab⟩:=aqx (apartB r);rw [<-hab]at h1 h2 aa1;have H1:=ah h1;have H2:=ah h2;unfold jc at aa1;clear h1 h2 hrow hrl hab ah1;cases ab
     · have HM:Hid (oh x (i:Int)= .error 160):=ah (by rw [HMP.out, <-H1.out];rfl)
       go_wp2_with(go_at_call 99;refine aa1.out.mono ?_;rintro e w3 ⟨rfl,hd⟩;have HD3:=ah (HD2.out.trans (hd.mono HD2.out.size));clear hd)
       exact HQE.out 160 _ HM.out (HB.out.trans (HD3.out.mono HB.out.size))
     · have HM:Hid (oh x (i:Int)= .ok (r.map Rk.m)):=ah (by rw [HMP.out, <-H1.out,H2.out rfl];rfl)
       go_wp2_with(first
        |(go_at_call 99;refine aa1.out.mono ?_;rintro e w3 ⟨rfl,hd⟩;have HD3:=ah (HD2.out.trans (hd.mono HD2.out.size));have l9:=ah (Yn r B e4 w3 (wY.out.up hd) HRL.out);clear hd)
        |(go_at_call 100;refine l9.out.mono ?_;rintro e w4 ⟨v4,rfl,DW,hd4⟩;have HD4:=ah (ak (HD3.out.trans (hd4.mono HD3.out.size)) DW);clear hd4 DW))
       exact HQO.out _ _ _ HM.out (HD4.out.2.low (aA HB.out.size HD3.out.size)) (HB.out.trans (HD4.out.1.mono HB.out.size))
end Go.Proofs.YtkaipknkjocfiaaGreat
