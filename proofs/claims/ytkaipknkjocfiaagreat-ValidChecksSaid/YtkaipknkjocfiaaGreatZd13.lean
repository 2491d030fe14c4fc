import Derived.Test.YtkaipknkjocfiaaGreatZd3
set_option maxRecDepth 100000
set_option maxHeartbeats 64000000
namespace Go.Proofs.YtkaipknkjocfiaaGreat
open Go.RowKit
def pz(b:Bool)(w:World)(e:Ending)(w':World):Prop:=e= .returned (.bool b)/\ Below w.heap.size w w'
theorem or2(a b:Bool):(a=true/\ (a||b)=true)∨(a=false/\ b=true/\ (a||b)=true)∨(a=false/\ b=false/\ (a||b)=false):=by cases a<;>cases b<;>simp
theorem aj2(a b c d:Bool):(a=false/\ (a&&(b&&(c&&d)))=false)∨(a=true/\ b=false/\ (a&&(b&&(c&&d)))=false)∨(a=true/\ b=true/\ c=false/\ (a&&(b&&(c&&d)))=false)∨(a=true/\ b=true/\ c=true/\ d=false/\ (a&&(b&&(c&&d)))=false)∨(a=true/\ b=true/\ c=true/\ d=true/\ (a&&(b&&(c&&d)))=true):=by
 cases a<;>cases b<;>cases c<;>cases d<;>simp
theorem AQ{α:Type}(f:α->Bool)(l:List α)(k:Nat)(h:k<l.length)(hp:(l.take k).any f=false)(hf:f l[k]=false):(l.take (k+1)).any f=false:=by
 rw [List.take_add_one,aF h,List.any_append,hp];simp [hf]
theorem JU{α:Type}(f:α->Bool)(l:List α)(k:Nat)(h:k<l.length)(hf:f l[k]=true):l.any f=true:=List.any_eq_true.2 ⟨_,ay h,hf⟩
theorem MF(x:Wi)(w:World):Calls Tryz.prog 145 #[.agg (vec 4 (bG x))] w (pz (jr x) w):=by
 obtain⟨V,hV⟩:=aqx (w.alloc (.cells (vec 4 (bG x)) 67));have k1:aU V w.heap.size 67 4 (bG x):=(by rw [hV];exact aU.new w _ _ _);have HK:Hid (Below w.heap.size w V):=ah (by rw [hV];exact(aC _ _).alloc (aj _) _);have HW:=ah hV;have c3:V.cell? ⟨w.heap.size,3,none⟩=some (.int .i64 x.perm):=k1.cell (i:=3) (by decide);have HP:=ah (fun W=>Af x.perm W);obtain⟨b,hb⟩:=aqx (inB x.perm 0 7);have hbad:jr x= !b:=(by rw [hb];rfl);rw [<-hb]at HP;rw [hbad];unfold pz;clear hV k1 hb hbad;go_enter Tryz.func145,Tryz.ntmps145;go_upto_region 1 with fail
 rw [<-HW.out];clear HW;go_wp2_with(go_at_call 176;refine(HP.out _).mono ?_;rintro e w1 ⟨rfl,rfl⟩)
 go_ret;exact⟨rfl,HK.out⟩
theorem MG(x:Ir)(w:World):Calls Tryz.prog 146 #[.agg (vec 3 (dV x))] w (pz (jv x) w):=by
 obtain⟨V,hV⟩:=aqx (w.alloc (.cells (vec 3 (dV x)) 65));have k1:aU V w.heap.size 65 3 (dV x):=(by rw [hV];exact aU.new w _ _ _);have HK:Hid (Below w.heap.size w V):=ah (by rw [hV];exact(aC _ _).alloc (aj _) _);have HW:=ah hV;have c0:V.cell? ⟨w.heap.size,0,none⟩=some (.int .i64 x.number):=k1.cell (i:=0) (by decide);have c1:V.cell? ⟨w.heap.size,1,none⟩=some (.int .i64 x.cpu):=k1.cell (i:=1) (by decide);have HP:=ah (fun W=>uN x.number W);have HQ:=ah (fun W=>uN x.cpu W);obtain⟨b,hb⟩:=aqx (inB x.number 0 65535);obtain⟨c,hc⟩:=aqx (inB x.cpu 0 65535);have hbad:jv x=(!b|| !c):=(by rw [hb,hc];rfl);rw [<-hb]at HP;rw [<-hc]at HQ;rw [hbad];unfold pz;clear hV k1 hb hc hbad;go_enter Tryz.func146,Tryz.ntmps146;go_upto_region 1 with fail
 rw [<-HW.out];clear HW;cases b
 · go_wp2_with(first|(go_at_call 177;refine(HP.out _).mono ?_;rintro e w1 ⟨rfl,rfl⟩)|(go_at_call 177;refine(HQ.out _).mono ?_;rintro e w2 ⟨rfl,rfl⟩))
   go_ret;exact⟨rfl,HK.out⟩
 · go_wp2_with(first|(go_at_call 177;refine(HP.out _).mono ?_;rintro e w1 ⟨rfl,rfl⟩)|(go_at_call 177;refine(HQ.out _).mono ?_;rintro e w2 ⟨rfl,rfl⟩))
   go_ret;exact⟨rfl,HK.out⟩
theorem MH(x:En)(w:World):Calls Tryz.prog 148 #[.agg (vec 3 (dY x))] w (pz (kL x) w):=by
 obtain⟨V,hV⟩:=aqx (w.alloc (.cells (vec 3 (dY x)) 44));have k1:aU V w.heap.size 44 3 (dY x):=(by rw [hV];exact aU.new w _ _ _);have HK:Hid (Below w.heap.size w V):=ah (by rw [hV];exact(aC _ _).alloc (aj _) _);have HW:=ah hV;have c0:V.cell? ⟨w.heap.size,0,none⟩=some (.int .i64 x.bK):=k1.cell (i:=0) (by decide);have c1:V.cell? ⟨w.heap.size,1,none⟩=some (.int .i64 x.perm):=k1.cell (i:=1) (by decide);have HP:=ah (fun W=>uN x.bK W);have HQ:=ah (fun W=>Af x.perm W);obtain⟨b,hb⟩:=aqx (inB x.bK 0 65535);obtain⟨c,hc⟩:=aqx (inB x.perm 0 7);have hbad:kL x=(!b|| !c):=(by rw [hb,hc];rfl);rw [<-hb]at HP;rw [<-hc]at HQ;rw [hbad];unfold pz;clear hV k1 hb hc hbad;go_enter Tryz.func148,Tryz.ntmps148;go_upto_region 1 with fail
 rw [<-HW.out];clear HW;cases b
 · go_wp2_with(first|(go_at_call 177;refine(HP.out _).mono ?_;rintro e w1 ⟨rfl,rfl⟩)|(go_at_call 176;refine(HQ.out _).mono ?_;rintro e w2 ⟨rfl,rfl⟩))
   go_ret;exact⟨rfl,HK.out⟩
 · go_wp2_with(first|(go_at_call 177;refine(HP.out _).mono ?_;rintro e w1 ⟨rfl,rfl⟩)|(go_at_call 176;refine(HQ.out _).mono ?_;rintro e w2 ⟨rfl,rfl⟩))
   go_ret;exact⟨rfl,HK.out⟩
theorem Xz(l:List Wi)(A:Option Addr)(c:Nat)(w:World)(hl:l.length<=9223372036854775807)(h1:bI 4 bG w w.heap.size A l):Calls Tryz.prog 119 #[.slice A l.length c,.func (.func 145) #[] #[]] w fun e w'=>∃z:Int,e= .returned (.int .i64 z)/\ decide (0<=z)=l.any jr/\ Below w.heap.size w w':=by
 have H1:=ah h1;obtain⟨N,hN⟩:=aqx (l.length);have HN:=ah hN;rw [<-hN]at hl⊢;obtain⟨B,hB⟩:=aqx (l.any jr);have oK:=ah hB;rw [<-hB];clear h1 hN hB;go_enter Tryz.func119,Tryz.ntmps119;go_wp2
 go_loopw [5,8] (fun _ v W=>∃k:Nat,k<=N/\ v= .int .i64 k/\ Hid ((l.take k).any jr=false)/\ Hid (Below w.heap.size w W)) (fun _ i _=>N-(intOf i).toNat)
 case atStart=>exact⟨0,aB _,rfl,ah rfl,ah (aC _ _)⟩
 case round=>
  obtain⟨k,hk,rfl,Ap,HB⟩:=hrel;by_cases hlt0:k<N
  · have hlt:k<l.length:=by have:=HN.out;omega
    obtain⟨W,hW⟩:=aqx wr;subst hW;have g1:=H1.out.up HB.out;obtain⟨a,p,rfl,hp,-,hcp⟩:=g1.at hlt;obtain⟨x,hx⟩:=aqx (l[k]);rw [<-hx]at hcp;have gI:=ah hcp;obtain⟨b,hb⟩:=aqx (jr x);have je:Hid (b=true->B=true):=ah (fun h=>by rw [oK.out];exact JU _ _ _ hlt (by rw [<-hx, <-hb];exact h));have qR:Hid (b=false->(l.take (k+1)).any jr=false):=ah (fun h=>AQ _ _ _ hlt Ap.out (by rw [<-hx, <-hb];exact h));have HC:=ah (MF x W);rw [<-hb]at HC;have hki:(k:Int)< (N:Int):=(by omega);clear g1 hcp hx hb hlt;cases b
    · have HS:=ah (qR.out rfl)
      clear qR je;go_wp2_with(first|((with_reducible refine aqy (.load 67 _) ?_);refine bC rfl 67 _ rfl p rfl _ (aW gI.out Tryz.underlying67 rfl gQ) ?_)|(go_at_call 145;refine HC.out.mono ?_;rintro e w1 ⟨rfl,hd⟩;have HD:=ah hd;clear hd))
      go_roundw
      case rel=>exact⟨k+1,by omega,by go_num,HS,ah (HB.out.trans (HD.out.mono HB.out.size))⟩
      case measure=>simp [intOf];omega
    · have HT:=ah (je.out rfl)
      clear qR je;go_wp2_with(first|((with_reducible refine aqy (.load 67 _) ?_);refine bC rfl 67 _ rfl p rfl _ (aW gI.out Tryz.underlying67 rfl gQ) ?_)|(go_at_call 145;refine HC.out.mono ?_;rintro e w1 ⟨rfl,hd⟩;have HD:=ah hd;clear hd))
      go_ret;exact⟨(k:Int),rfl,by rw [HT.out];simp,HB.out.trans (HD.out.mono HB.out.size)⟩
  · obtain rfl:k=N:=by omega
    have HT:Hid (B=false):=ah (by rw [oK.out];have h:=Ap.out;rw [HN.out,List.take_length]at h;exact h);clear hlt0;go_wp2_with fail
    go_ret;exact⟨-1,rfl,by rw [HT.out];decide,HB.out⟩
theorem MI(l:List Wi)(A:Option Addr)(c:Nat)(w:World)(hl:l.length<=9223372036854775807)(h1:bI 4 bG w w.heap.size A l):Calls Tryz.prog 76 #[.slice A l.length c,.func (.func 145) #[] #[]] w (pz (l.any jr) w):=by
 have HC:=ah (Xz l A c w hl h1);obtain⟨B,hB⟩:=aqx (l.any jr);rw [<-hB]at HC⊢;unfold pz;clear hB h1;go_enter Tryz.func76,Tryz.ntmps76;go_wp2_with(go_at_call 119;refine HC.out.mono ?_;rintro e w1 ⟨z,rfl,hz,hd⟩;have HZ:=ah hz;have HD:=ah hd;clear hd hz)
 go_ret;exact⟨by rw [<-HZ.out];rfl,HD.out⟩
theorem XA(l:List Ir)(A:Option Addr)(c:Nat)(w:World)(hl:l.length<=9223372036854775807)(h1:bI 3 dV w w.heap.size A l):Calls Tryz.prog 123 #[.slice A l.length c,.func (.func 146) #[] #[]] w fun e w'=>∃z:Int,e= .returned (.int .i64 z)/\ decide (0<=z)=l.any jv/\ Below w.heap.size w w':=by
 have H1:=ah h1;obtain⟨N,hN⟩:=aqx (l.length);have HN:=ah hN;rw [<-hN]at hl⊢;obtain⟨B,hB⟩:=aqx (l.any jv);have oK:=ah hB;rw [<-hB];clear h1 hN hB;go_enter Tryz.func123,Tryz.ntmps123;go_wp2
 go_loopw [5,8] (fun _ v W=>∃k:Nat,k<=N/\ v= .int .i64 k/\ Hid ((l.take k).any jv=false)/\ Hid (Below w.heap.size w W)) (fun _ i _=>N-(intOf i).toNat)
 case atStart=>exact⟨0,aB _,rfl,ah rfl,ah (aC _ _)⟩
 case round=>
  obtain⟨k,hk,rfl,Ap,HB⟩:=hrel;by_cases hlt0:k<N
  · have hlt:k<l.length:=by have:=HN.out;omega
    obtain⟨W,hW⟩:=aqx wr;subst hW;have g1:=H1.out.up HB.out;obtain⟨a,p,rfl,hp,-,hcp⟩:=g1.at hlt;obtain⟨x,hx⟩:=aqx (l[k]);rw [<-hx]at hcp;have gI:=ah hcp;obtain⟨b,hb⟩:=aqx (jv x);have je:Hid (b=true->B=true):=ah (fun h=>by rw [oK.out];exact JU _ _ _ hlt (by rw [<-hx, <-hb];exact h));have qR:Hid (b=false->(l.take (k+1)).any jv=false):=ah (fun h=>AQ _ _ _ hlt Ap.out (by rw [<-hx, <-hb];exact h));have HC:=ah (MG x W);rw [<-hb]at HC;have hki:(k:Int)< (N:Int):=(by omega);clear g1 hcp hx hb hlt;cases b
    · have HS:=ah (qR.out rfl)
      clear qR je;go_wp2_with(first|((with_reducible refine aqy (.load 65 _) ?_);refine bC rfl 65 _ rfl p rfl _ (aW gI.out Tryz.underlying65 rfl rJ) ?_)|(go_at_call 146;refine HC.out.mono ?_;rintro e w1 ⟨rfl,hd⟩;have HD:=ah hd;clear hd))
      go_roundw
      case rel=>exact⟨k+1,by omega,by go_num,HS,ah (HB.out.trans (HD.out.mono HB.out.size))⟩
      case measure=>simp [intOf];omega
    · have HT:=ah (je.out rfl)
      clear qR je;go_wp2_with(first|((with_reducible refine aqy (.load 65 _) ?_);refine bC rfl 65 _ rfl p rfl _ (aW gI.out Tryz.underlying65 rfl rJ) ?_)|(go_at_call 146;refine HC.out.mono ?_;rintro e w1 ⟨rfl,hd⟩;have HD:=ah hd;clear hd))
      go_ret;exact⟨(k:Int),rfl,by rw [HT.out];simp,HB.out.trans (HD.out.mono HB.out.size)⟩
  · obtain rfl:k=N:=by omega
    have HT:Hid (B=false):=ah (by rw [oK.out];have h:=Ap.out;rw [HN.out,List.take_length]at h;exact h);clear hlt0;go_wp2_with fail
    go_ret;exact⟨-1,rfl,by rw [HT.out];decide,HB.out⟩
theorem MJ(l:List Ir)(A:Option Addr)(c:Nat)(w:World)(hl:l.length<=9223372036854775807)(h1:bI 3 dV w w.heap.size A l):Calls Tryz.prog 87 #[.slice A l.length c,.func (.func 146) #[] #[]] w (pz (l.any jv) w):=by
 have HC:=ah (XA l A c w hl h1);obtain⟨B,hB⟩:=aqx (l.any jv);rw [<-hB]at HC⊢;unfold pz;clear hB h1;go_enter Tryz.func87,Tryz.ntmps87;go_wp2_with(go_at_call 123;refine HC.out.mono ?_;rintro e w1 ⟨z,rfl,hz,hd⟩;have HZ:=ah hz;have HD:=ah hd;clear hd hz)
 go_ret;exact⟨by rw [<-HZ.out];rfl,HD.out⟩
theorem XB(l:List En)(A:Option Addr)(c:Nat)(w:World)(hl:l.length<=9223372036854775807)(h1:bI 3 dY w w.heap.size A l):Calls Tryz.prog 164 #[.slice A l.length c,.func (.func 148) #[] #[]] w fun e w'=>∃z:Int,e= .returned (.int .i64 z)/\ decide (0<=z)=l.any kL/\ Below w.heap.size w w':=by
 have H1:=ah h1;obtain⟨N,hN⟩:=aqx (l.length);have HN:=ah hN;rw [<-hN]at hl⊢;obtain⟨B,hB⟩:=aqx (l.any kL);have oK:=ah hB;rw [<-hB];clear h1 hN hB;go_enter Tryz.func164,Tryz.ntmps164;go_wp2
 go_loopw [5,8] (fun _ v W=>∃k:Nat,k<=N/\ v= .int .i64 k/\ Hid ((l.take k).any kL=false)/\ Hid (Below w.heap.size w W)) (fun _ i _=>N-(intOf i).toNat)
 case atStart=>exact⟨0,aB _,rfl,ah rfl,ah (aC _ _)⟩
 case round=>
  obtain⟨k,hk,rfl,Ap,HB⟩:=hrel;by_cases hlt0:k<N
  · have hlt:k<l.length:=by have:=HN.out;omega
    obtain⟨W,hW⟩:=aqx wr;subst hW;have g1:=H1.out.up HB.out;obtain⟨a,p,rfl,hp,-,hcp⟩:=g1.at hlt;obtain⟨x,hx⟩:=aqx (l[k]);rw [<-hx]at hcp;have gI:=ah hcp;obtain⟨b,hb⟩:=aqx (kL x);have je:Hid (b=true->B=true):=ah (fun h=>by rw [oK.out];exact JU _ _ _ hlt (by rw [<-hx, <-hb];exact h));have qR:Hid (b=false->(l.take (k+1)).any kL=false):=ah (fun h=>AQ _ _ _ hlt Ap.out (by rw [<-hx, <-hb];exact h));have HC:=ah (MH x W);rw [<-hb]at HC;have hki:(k:Int)< (N:Int):=(by omega);clear g1 hcp hx hb hlt;cases b
    · have HS:=ah (qR.out rfl)
      clear qR je;go_wp2_with(first|((with_reducible refine aqy (.load 44 _) ?_);refine bC rfl 44 _ rfl p rfl _ (aW gI.out Tryz.underlying44 rfl nX) ?_)|(go_at_call 148;refine HC.out.mono ?_;rintro e w1 ⟨rfl,hd⟩;have HD:=ah hd;clear hd))
      go_roundw
      case rel=>exact⟨k+1,by omega,by go_num,HS,ah (HB.out.trans (HD.out.mono HB.out.size))⟩
      case measure=>simp [intOf];omega
    · have HT:=ah (je.out rfl)
      clear qR je;go_wp2_with(first|((with_reducible refine aqy (.load 44 _) ?_);refine bC rfl 44 _ rfl p rfl _ (aW gI.out Tryz.underlying44 rfl nX) ?_)|(go_at_call 148;refine HC.out.mono ?_;rintro e w1 ⟨rfl,hd⟩;have HD:=ah hd;clear hd))
      go_ret;exact⟨(k:Int),rfl,by rw [HT.out];simp,HB.out.trans (HD.out.mono HB.out.size)⟩
  · obtain rfl:k=N:=by omega
    have HT:Hid (B=false):=ah (by rw [oK.out];have h:=Ap.out;rw [HN.out,List.take_length]at h;exact h);clear hlt0;go_wp2_with fail
    go_ret;exact⟨-1,rfl,by rw [HT.out];decide,HB.out⟩
theorem MK(l:List En)(A:Option Addr)(c:Nat)(w:World)(hl:l.length<=9223372036854775807)(h1:bI 3 dY w w.heap.size A l):Calls Tryz.prog 132 #[.slice A l.length c,.func (.func 148) #[] #[]] w (pz (l.any kL) w):=by
 have HC:=ah (XB l A c w hl h1);obtain⟨B,hB⟩:=aqx (l.any kL);rw [<-hB]at HC⊢;unfold pz;clear hB h1;go_enter Tryz.func132,Tryz.ntmps132;go_wp2_with(go_at_call 164;refine HC.out.mono ?_;rintro e w1 ⟨z,rfl,hz,hd⟩;have HZ:=ah hz;have HD:=ah hd;clear hd hz)
 go_ret;exact⟨by rw [<-HZ.out];rfl,HD.out⟩
theorem ML{w:World}{g:Nat}{t:TypeId}{x:Ch}(h:aU w g t 8 (kJ x)):bI 3 dY w w.heap.size (some ⟨g,2,none⟩) [x.a,x.b]:=fun _=>⟨_,rfl,h.lt,fun j hj i hi=>by
 have hj2:j<2:=hj;have e:((⟨g,2,none⟩:Addr).add (j*3+i))=⟨g,2+(j*3+i),none⟩:=(by unfold Addr.add;generalize j*3+i=n;by_cases h0:n=0<;>simp [h0]);rw [e,h.cell (by omega)]
 congr 1
 rw [Nat.add_comm 2];show(if j*3+i<3 then dY x.a (j*3+i)else dY x.b (j*3+i-3))=_
 match j,hj2 with
 |0,_=>rw [if_pos (by omega)];simp
 |1,_=>rw [if_neg (by omega)];congr 1;omega⟩
theorem MN(x:Ch)(w:World):Calls Tryz.prog 111 #[.agg (vec 8 (kJ x))] w (pz (kM x) w):=by
 obtain⟨V,hV⟩:=aqx (w.alloc (.cells (vec 8 (kJ x)) 47));have k1:aU V w.heap.size 47 8 (kJ x):=(by rw [hV];exact aU.new w _ _ _);have HK:Hid (Below w.heap.size w V):=ah (by rw [hV];exact(aC _ _).alloc (aj _) _);have HW:=ah hV;have HC:=ah (MK [x.a,x.b] (some ⟨w.heap.size,2,none⟩) 2 V (by simp) (ML k1));have hb:([x.a,x.b].any kL)=kM x:=(by simp [kM]);rw [hb]at HC;unfold pz;clear hV k1 hb;go_enter Tryz.func111,Tryz.ntmps111;go_upto_region 1 with fail
 rw [<-HW.out];clear HW;go_wp2_with(go_at_call 132;refine HC.out.mono ?_;rintro e w1 ⟨rfl,hd⟩;have HD:=ah hd;clear hd)
 go_ret;exact⟨rfl,HK.out.trans (HD.out.mono HK.out.size)⟩
theorem XC(l:List Ch)(A:Option Addr)(c:Nat)(w:World)(hl:l.length<=9223372036854775807)(h1:bI 8 kJ w w.heap.size A l):Calls Tryz.prog 147 #[.slice A l.length c,.func (.func 111) #[] #[]] w fun e w'=>∃z:Int,e= .returned (.int .i64 z)/\ decide (0<=z)=l.any kM/\ Below w.heap.size w w':=by
 have H1:=ah h1;obtain⟨N,hN⟩:=aqx (l.length);have HN:=ah hN;rw [<-hN]at hl⊢;obtain⟨B,hB⟩:=aqx (l.any kM);have oK:=ah hB;rw [<-hB];clear h1 hN hB;go_enter Tryz.func147,Tryz.ntmps147;go_wp2
 go_loopw [5,8] (fun _ v W=>∃k:Nat,k<=N/\ v= .int .i64 k/\ Hid ((l.take k).any kM=false)/\ Hid (Below w.heap.size w W)) (fun _ i _=>N-(intOf i).toNat)
 case atStart=>exact⟨0,aB _,rfl,ah rfl,ah (aC _ _)⟩
 case round=>
  obtain⟨k,hk,rfl,Ap,HB⟩:=hrel;by_cases hlt0:k<N
  · have hlt:k<l.length:=by have:=HN.out;omega
    obtain⟨W,hW⟩:=aqx wr;subst hW;have g1:=H1.out.up HB.out;obtain⟨a,p,rfl,hp,-,hcp⟩:=g1.at hlt;obtain⟨x,hx⟩:=aqx (l[k]);rw [<-hx]at hcp;have gI:=ah hcp;obtain⟨b,hb⟩:=aqx (kM x);have je:Hid (b=true->B=true):=ah (fun h=>by rw [oK.out];exact JU _ _ _ hlt (by rw [<-hx, <-hb];exact h));have qR:Hid (b=false->(l.take (k+1)).any kM=false):=ah (fun h=>AQ _ _ _ hlt Ap.out (by rw [<-hx, <-hb];exact h));have HC:=ah (MN x W);rw [<-hb]at HC;have hki:(k:Int)< (N:Int):=(by omega);clear g1 hcp hx hb hlt;cases b
    · have HS:=ah (qR.out rfl)
      clear qR je;go_wp2_with(first|((with_reducible refine aqy (.load 47 _) ?_);refine bC rfl 47 _ rfl p rfl _ (aW gI.out Tryz.underlying47 rfl nJ) ?_)|(go_at_call 111;refine HC.out.mono ?_;rintro e w1 ⟨rfl,hd⟩;have HD:=ah hd;clear hd))
      go_roundw
      case rel=>exact⟨k+1,by omega,by go_num,HS,ah (HB.out.trans (HD.out.mono HB.out.size))⟩
      case measure=>simp [intOf];omega
    · have HT:=ah (je.out rfl)
      clear qR je;go_wp2_with(first|((with_reducible refine aqy (.load 47 _) ?_);refine bC rfl 47 _ rfl p rfl _ (aW gI.out Tryz.underlying47 rfl nJ) ?_)|(go_at_call 111;refine HC.out.mono ?_;rintro e w1 ⟨rfl,hd⟩;have HD:=ah hd;clear hd))
      go_ret;exact⟨(k:Int),rfl,by rw [HT.out];simp,HB.out.trans (HD.out.mono HB.out.size)⟩
  · obtain rfl:k=N:=by omega
    have HT:Hid (B=false):=ah (by rw [oK.out];have h:=Ap.out;rw [HN.out,List.take_length]at h;exact h);clear hlt0;go_wp2_with fail
    go_ret;exact⟨-1,rfl,by rw [HT.out];decide,HB.out⟩
theorem MO(l:List Ch)(A:Option Addr)(c:Nat)(w:World)(hl:l.length<=9223372036854775807)(h1:bI 8 kJ w w.heap.size A l):Calls Tryz.prog 110 #[.slice A l.length c,.func (.func 111) #[] #[]] w (pz (l.any kM) w):=by
 have HC:=ah (XC l A c w hl h1);obtain⟨B,hB⟩:=aqx (l.any kM);rw [<-hB]at HC⊢;unfold pz;clear hB h1;go_enter Tryz.func110,Tryz.ntmps110;go_wp2_with(go_at_call 147;refine HC.out.mono ?_;rintro e w1 ⟨z,rfl,hz,hd⟩;have HZ:=ah hz;have HD:=ah hd;clear hd hz)
 go_ret;exact⟨by rw [<-HZ.out];rfl,HD.out⟩
theorem MQ(x:GV)(w:World)(hx:qI w w.heap.size x):Calls Tryz.prog 144 #[.agg (vec 79 (aT x))] w (pz (tX x.g) w):=by
 obtain⟨V,hV⟩:=aqx (w.alloc (.cells (vec 79 (aT x)) 63));have k1:aU V w.heap.size 63 79 (aT x):=(by rw [hV];exact aU.new w _ _ _);have HK:Hid (Below w.heap.size w V):=ah (by rw [hV];exact(aC _ _).alloc (aj _) _);have HW:=ah hV;obtain⟨⟨A1,e1,f1,_,_⟩,⟨A2,e2,f2,_,_⟩,⟨A3,e3,f3,_,_⟩,⟨A4,e4,f4,_,_⟩⟩:=hx;have y1:V.cell? ⟨w.heap.size,75,none⟩=some (.slice A1 x.g.wins.length e1):=f1▸k1.cell (i:=75) (by decide);have y2:V.cell? ⟨w.heap.size,76,none⟩=some (.slice A2 x.g.dG.length e2):=f2▸k1.cell (i:=76) (by decide);have y3:V.cell? ⟨w.heap.size,77,none⟩=some (.slice A3 x.g.cO.length e3):=f3▸k1.cell (i:=77) (by decide);have y4:V.cell? ⟨w.heap.size,78,none⟩=some (.slice A4 x.g.strs.length e4):=f4▸k1.cell (i:=78) (by decide);have H1:=ah (fun W=>E5 (x.g.wins.length:Int) W);have H2:=ah (fun W=>E8 (x.g.dG.length:Int) W);have H3:=ah (fun W=>LU (x.g.cO.length:Int) W);have H4:=ah (fun W=>E9 (x.g.strs.length:Int) W);have hc:=aj2 (inB x.g.wins.length 1 16) (inB x.g.dG.length 0 16) (inB x.g.cO.length 0 64) (inB x.g.strs.length 0 32);unfold tX;obtain⟨n1,q1⟩:=aqx (x.g.wins.length);obtain⟨n2,q2⟩:=aqx (x.g.dG.length);obtain⟨n3,q3⟩:=aqx (x.g.cO.length);obtain⟨n4,q4⟩:=aqx (x.g.strs.length);rw [<-q1]at y1 H1 hc⊢;rw [<-q2]at y2 H2 hc⊢;rw [<-q3]at y3 H3 hc⊢;rw [<-q4]at y4 H4 hc⊢;obtain⟨b1,r1⟩:=aqx (inB (n1:Int) 1 16);obtain⟨b2,r2⟩:=aqx (inB (n2:Int) 0 16);obtain⟨b3,r3⟩:=aqx (inB (n3:Int) 0 64);obtain⟨b4,r4⟩:=aqx (inB (n4:Int) 0 32);rw [<-r1]at H1 hc⊢;rw [<-r2]at H2 hc⊢;rw [<-r3]at H3 hc⊢;rw [<-r4]at H4 hc⊢;unfold pz;obtain⟨r,hr⟩:=aqx ((b1&&(b2&&(b3&&b4))));rw [<-hr]at hc⊢;clear hV k1 f1 f2 f3 f4 q1 q2 q3 q4 r1 r2 r3 r4 hr;go_enter Tryz.func144,Tryz.ntmps144;go_upto_region 1 with fail
 rw [<-HW.out];clear HW;rcases hc with⟨rfl,rfl⟩|⟨rfl,rfl,rfl⟩|⟨rfl,rfl,rfl,rfl⟩|⟨rfl,rfl,rfl,rfl,rfl⟩|⟨rfl,rfl,rfl,rfl,rfl⟩
 all_goals (go_wp2_with(first|(go_at_call 172;refine(H1.out _).mono ?_;rintro e w1 ⟨rfl,rfl⟩)|(go_at_call 173;refine(H2.out _).mono ?_;rintro e w2 ⟨rfl,rfl⟩)|(go_at_call 174;refine(H3.out _).mono ?_;rintro e w3 ⟨rfl,rfl⟩)|(go_at_call 175;refine(H4.out _).mono ?_;rintro e w4 ⟨rfl,rfl⟩));go_ret;exact⟨rfl,HK.out⟩)
def aaF(n:Nat)(w:World)(e:Ending)(w':World):Prop:=e= .returned (.int .i64 (n:Int))/\ Below w.heap.size w w'
theorem CO(x:GV)(w:World)(hx:qI w w.heap.size x)(hk:x.g.key.length=68)(hn:x.g.name.length<=1000000):Calls Tryz.prog 109 #[.agg (vec 79 (aT x))] w (aaF (jX x.g) w):=by
 obtain⟨V,hV⟩:=aqx (w.alloc (.cells (vec 79 (aT x)) 63));have k1:aU V w.heap.size 63 79 (aT x):=(by rw [hV];exact aU.new w _ _ _);have HK:Hid (Below w.heap.size w V):=ah (by rw [hV];exact(aC _ _).alloc (aj _) _);have HW:=ah hV;have hB:=HK.out;have hx2:qI V V.heap.size x:=(hx.below hB).wide hB.size;have y0:V.cell? ⟨w.heap.size,0,none⟩=some (.string (strOf x.g.name)):=k1.cell (i:=0) (by decide);have HX:=ah hx2;obtain⟨⟨A1,e1,f1,_,l1⟩,⟨A2,e2,f2,_,_⟩,⟨A3,e3,f3,_,l3⟩,⟨A4,e4,f4,_,_⟩⟩:=hx2;have LV:Hid (V.cell? ⟨w.heap.size,75,none⟩=some (.slice A1 x.g.wins.length e1)):=ah (f1▸k1.cell (i:=75) (by decide));have Z7:Hid (V.cell? ⟨w.heap.size,77,none⟩=some (.slice A3 x.g.cO.length e3)):=ah (f3▸k1.cell (i:=77) (by decide));have HA:=ah k1;have H1:=ah (name_any x.g.name hn);have H2:=ah (Uc x.g.key hk);have H3:=ah (fun W (h:Below V.heap.size V W)=>MQ x W ((HX.out.below h).wide h.size));have H4:Hid (∀W,Below V.heap.size V W->Calls Tryz.prog 76 #[.slice A1 x.g.wins.length e1,.func (.func 145) #[] #[]] W (pz (x.g.wins.any jr) W)):=ah (fun W h=>by
   obtain⟨⟨B,c,q,r,l⟩,_,_,_⟩:=HX.out;rw [f1]at q;cases q
   exact MI _ _ _ W l1 (r.up h))
 have H5:Hid (∀W,Below V.heap.size V W->Calls Tryz.prog 87 #[.slice A3 x.g.cO.length e3,.func (.func 146) #[] #[]] W (pz (x.g.cO.any jv) W)):=ah (fun W h=>by
   obtain⟨_,_,⟨B,c,q,r,l⟩,_⟩:=HX.out;rw [f3]at q;cases q
   exact MJ _ _ _ W l3 (r.up h))
 obtain⟨S,hS⟩:=aqx (strOf x.g.name);obtain⟨kf,Xc⟩:=aqx (kF x.g.key);obtain⟨G,hG⟩:=aqx (aT x);have HKC:Hid (∀i,i<68->V.cell? ⟨w.heap.size,7+i,none⟩=some (oM kf i)):=ah (by rw [Xc];exact IY k1);rw [<-hS]at y0 H1;rw [<-Xc]at H2;obtain⟨nb,r1⟩:=aqx (jD x.g.name);obtain⟨kb,r2⟩:=aqx (Ij x.g.key);obtain⟨cb,r3⟩:=aqx (tX x.g);obtain⟨wb,r4⟩:=aqx (x.g.wins.any jr);obtain⟨ib,r5⟩:=aqx (x.g.cO.any jv);unfold jX;rw [<-r1, <-r2, <-r3, <-r4, <-r5];rw [<-r1]at H1;rw [<-r2]at H2;rw [<-r3]at H3;rw [<-r4]at H4;rw [<-r5]at H5;unfold aaF;clear hV k1 hx HX hB hS Xc hG r1 r2 r3 r4 r5 f1 f2 f3 f4 hk hn l1 l3;go_enter Tryz.func109,Tryz.ntmps109;go_upto_region 1 with fail
 rw [<-HW.out];clear HW;cases nb
 · go_wp2_with(go_at_call 142;refine(H1.out _).mono ?_;rintro e w1 ⟨rfl,rfl⟩)
   go_ret;exact⟨rfl,HK.out⟩
 cases kb
 · have _:=H2
   go_wp2_with(first
    |((with_reducible refine aqy (.load 52 _) ?_);refine kN (by kernel_rfl) (jP 52 _ rfl _ _ rfl _ (pR HKC.out Tryz.underlying52 rfl nV)) ?_)
    |((with_reducible refine aqy (.load 63 _) ?_);refine bM rfl 63 _ rfl _ rfl _ (aQ (HA.out.under HD.out) Tryz.underlying63 rfl dU) ?_)
    |(go_at_call 142;refine(H1.out _).mono ?_;rintro e w1 ⟨rfl,rfl⟩)
    |(go_at_call 143;refine(H2.out _).mono ?_;rintro e w2 ⟨rfl,hd⟩;have JV:w2.cell? ⟨w.heap.size,75,none⟩=_:=(hd.cell (aG V _ LV.out)).trans LV.out;have yh:w2.cell? ⟨w.heap.size,77,none⟩=_:=(hd.cell (aG V _ Z7.out)).trans Z7.out;have HD:=ah hd;clear hd)
    |(go_at_call 144;refine(H3.out _ HD.out).mono ?_;rintro e w3 ⟨rfl,hd⟩;have JV:w3.cell? ⟨w.heap.size,75,none⟩=_:=(hd.cell (aG _ _ JV)).trans JV;have yh:w3.cell? ⟨w.heap.size,77,none⟩=_:=(hd.cell (aG _ _ yh)).trans yh;have HD:=ah (HD.out.trans (hd.mono HD.out.size));clear hd)
    |(go_at_call 76;refine(H4.out _ HD.out).mono ?_;rintro e w4 ⟨rfl,hd⟩;have yh:w4.cell? ⟨w.heap.size,77,none⟩=_:=(hd.cell (aG _ _ yh)).trans yh;have HD:=ah (HD.out.trans (hd.mono HD.out.size));clear hd)
    |(go_at_call 87;refine(H5.out _ HD.out).mono ?_;rintro e w5 ⟨rfl,hd⟩;have HD:=ah (HD.out.trans (hd.mono HD.out.size));clear hd))
   go_ret;exact⟨rfl,HK.out.trans (HD.out.mono HK.out.size)⟩
 cases cb
 · have _:=H3
   go_wp2_with(first
    |((with_reducible refine aqy (.load 52 _) ?_);refine kN (by kernel_rfl) (jP 52 _ rfl _ _ rfl _ (pR HKC.out Tryz.underlying52 rfl nV)) ?_)
    |((with_reducible refine aqy (.load 63 _) ?_);refine bM rfl 63 _ rfl _ rfl _ (aQ (HA.out.under HD.out) Tryz.underlying63 rfl dU) ?_)
    |(go_at_call 142;refine(H1.out _).mono ?_;rintro e w1 ⟨rfl,rfl⟩)
    |(go_at_call 143;refine(H2.out _).mono ?_;rintro e w2 ⟨rfl,hd⟩;have JV:w2.cell? ⟨w.heap.size,75,none⟩=_:=(hd.cell (aG V _ LV.out)).trans LV.out;have yh:w2.cell? ⟨w.heap.size,77,none⟩=_:=(hd.cell (aG V _ Z7.out)).trans Z7.out;have HD:=ah hd;clear hd)
    |(go_at_call 144;refine(H3.out _ HD.out).mono ?_;rintro e w3 ⟨rfl,hd⟩;have JV:w3.cell? ⟨w.heap.size,75,none⟩=_:=(hd.cell (aG _ _ JV)).trans JV;have yh:w3.cell? ⟨w.heap.size,77,none⟩=_:=(hd.cell (aG _ _ yh)).trans yh;have HD:=ah (HD.out.trans (hd.mono HD.out.size));clear hd)
    |(go_at_call 76;refine(H4.out _ HD.out).mono ?_;rintro e w4 ⟨rfl,hd⟩;have yh:w4.cell? ⟨w.heap.size,77,none⟩=_:=(hd.cell (aG _ _ yh)).trans yh;have HD:=ah (HD.out.trans (hd.mono HD.out.size));clear hd)
    |(go_at_call 87;refine(H5.out _ HD.out).mono ?_;rintro e w5 ⟨rfl,hd⟩;have HD:=ah (HD.out.trans (hd.mono HD.out.size));clear hd))
   go_ret;exact⟨rfl,HK.out.trans (HD.out.mono HK.out.size)⟩
 cases wb
 rotate_left
 · have _:=H4
   go_wp2_with(first
    |((with_reducible refine aqy (.load 52 _) ?_);refine kN (by kernel_rfl) (jP 52 _ rfl _ _ rfl _ (pR HKC.out Tryz.underlying52 rfl nV)) ?_)
    |((with_reducible refine aqy (.load 63 _) ?_);refine bM rfl 63 _ rfl _ rfl _ (aQ (HA.out.under HD.out) Tryz.underlying63 rfl dU) ?_)
    |(go_at_call 142;refine(H1.out _).mono ?_;rintro e w1 ⟨rfl,rfl⟩)
    |(go_at_call 143;refine(H2.out _).mono ?_;rintro e w2 ⟨rfl,hd⟩;have JV:w2.cell? ⟨w.heap.size,75,none⟩=_:=(hd.cell (aG V _ LV.out)).trans LV.out;have yh:w2.cell? ⟨w.heap.size,77,none⟩=_:=(hd.cell (aG V _ Z7.out)).trans Z7.out;have HD:=ah hd;clear hd)
    |(go_at_call 144;refine(H3.out _ HD.out).mono ?_;rintro e w3 ⟨rfl,hd⟩;have JV:w3.cell? ⟨w.heap.size,75,none⟩=_:=(hd.cell (aG _ _ JV)).trans JV;have yh:w3.cell? ⟨w.heap.size,77,none⟩=_:=(hd.cell (aG _ _ yh)).trans yh;have HD:=ah (HD.out.trans (hd.mono HD.out.size));clear hd)
    |(go_at_call 76;refine(H4.out _ HD.out).mono ?_;rintro e w4 ⟨rfl,hd⟩;have yh:w4.cell? ⟨w.heap.size,77,none⟩=_:=(hd.cell (aG _ _ yh)).trans yh;have HD:=ah (HD.out.trans (hd.mono HD.out.size));clear hd)
    |(go_at_call 87;refine(H5.out _ HD.out).mono ?_;rintro e w5 ⟨rfl,hd⟩;have HD:=ah (HD.out.trans (hd.mono HD.out.size));clear hd))
   go_ret;exact⟨rfl,HK.out.trans (HD.out.mono HK.out.size)⟩
 cases ib
 · have _:=H5
   go_wp2_with(first
    |((with_reducible refine aqy (.load 52 _) ?_);refine kN (by kernel_rfl) (jP 52 _ rfl _ _ rfl _ (pR HKC.out Tryz.underlying52 rfl nV)) ?_)
    |((with_reducible refine aqy (.load 63 _) ?_);refine bM rfl 63 _ rfl _ rfl _ (aQ (HA.out.under HD.out) Tryz.underlying63 rfl dU) ?_)
    |(go_at_call 142;refine(H1.out _).mono ?_;rintro e w1 ⟨rfl,rfl⟩)
    |(go_at_call 143;refine(H2.out _).mono ?_;rintro e w2 ⟨rfl,hd⟩;have JV:w2.cell? ⟨w.heap.size,75,none⟩=_:=(hd.cell (aG V _ LV.out)).trans LV.out;have yh:w2.cell? ⟨w.heap.size,77,none⟩=_:=(hd.cell (aG V _ Z7.out)).trans Z7.out;have HD:=ah hd;clear hd)
    |(go_at_call 144;refine(H3.out _ HD.out).mono ?_;rintro e w3 ⟨rfl,hd⟩;have JV:w3.cell? ⟨w.heap.size,75,none⟩=_:=(hd.cell (aG _ _ JV)).trans JV;have yh:w3.cell? ⟨w.heap.size,77,none⟩=_:=(hd.cell (aG _ _ yh)).trans yh;have HD:=ah (HD.out.trans (hd.mono HD.out.size));clear hd)
    |(go_at_call 76;refine(H4.out _ HD.out).mono ?_;rintro e w4 ⟨rfl,hd⟩;have yh:w4.cell? ⟨w.heap.size,77,none⟩=_:=(hd.cell (aG _ _ yh)).trans yh;have HD:=ah (HD.out.trans (hd.mono HD.out.size));clear hd)
    |(go_at_call 87;refine(H5.out _ HD.out).mono ?_;rintro e w5 ⟨rfl,hd⟩;have HD:=ah (HD.out.trans (hd.mono HD.out.size));clear hd))
   go_ret;exact⟨rfl,HK.out.trans (HD.out.mono HK.out.size)⟩
 · have _:=H5
   go_wp2_with(first
    |((with_reducible refine aqy (.load 52 _) ?_);refine kN (by kernel_rfl) (jP 52 _ rfl _ _ rfl _ (pR HKC.out Tryz.underlying52 rfl nV)) ?_)
    |((with_reducible refine aqy (.load 63 _) ?_);refine bM rfl 63 _ rfl _ rfl _ (aQ (HA.out.under HD.out) Tryz.underlying63 rfl dU) ?_)
    |(go_at_call 142;refine(H1.out _).mono ?_;rintro e w1 ⟨rfl,rfl⟩)
    |(go_at_call 143;refine(H2.out _).mono ?_;rintro e w2 ⟨rfl,hd⟩;have JV:w2.cell? ⟨w.heap.size,75,none⟩=_:=(hd.cell (aG V _ LV.out)).trans LV.out;have yh:w2.cell? ⟨w.heap.size,77,none⟩=_:=(hd.cell (aG V _ Z7.out)).trans Z7.out;have HD:=ah hd;clear hd)
    |(go_at_call 144;refine(H3.out _ HD.out).mono ?_;rintro e w3 ⟨rfl,hd⟩;have JV:w3.cell? ⟨w.heap.size,75,none⟩=_:=(hd.cell (aG _ _ JV)).trans JV;have yh:w3.cell? ⟨w.heap.size,77,none⟩=_:=(hd.cell (aG _ _ yh)).trans yh;have HD:=ah (HD.out.trans (hd.mono HD.out.size));clear hd)
    |(go_at_call 76;refine(H4.out _ HD.out).mono ?_;rintro e w4 ⟨rfl,hd⟩;have yh:w4.cell? ⟨w.heap.size,77,none⟩=_:=(hd.cell (aG _ _ yh)).trans yh;have HD:=ah (HD.out.trans (hd.mono HD.out.size));clear hd)
    |(go_at_call 87;refine(H5.out _ HD.out).mono ?_;rintro e w5 ⟨rfl,hd⟩;have HD:=ah (HD.out.trans (hd.mono HD.out.size));clear hd))
   go_ret;exact⟨rfl,HK.out.trans (HD.out.mono HK.out.size)⟩
open Go.RowKit
attribute [local go_sem ↓ high] oZ
theorem IZ{α:Type}(e:α->Nat):∀ (l:List α) (k:Nat) (h:k<l.length),dK e (l.take k)=0->e l[k]=0->dK e (l.take (k+1))=0
 | [],_,h,_,_=>by cases h
 |x::xs,0,_,_,h2=>by
  show(if e x=0 then dK e (xs.take 0)else e x)=0
  have h2:e x=0:=h2;rw [if_pos h2];rfl
 |x::xs,k+1,h,h1,h2=>by
  have h1:(if e x=0 then dK e (xs.take k)else e x)=0:=h1;show(if e x=0 then dK e (xs.take (k+1))else e x)=0
  by_cases hx:e x=0
  · rw [if_pos hx]at h1⊢
    exact IZ e xs k (by simpa using h) h1 h2
  · rw [if_neg hx]at h1;exact absurd h1 hx
theorem RX{α:Type}(e:α->Nat):∀ (l:List α) (k:Nat) (h:k<l.length),dK e (l.take k)=0->e l[k]≠0->dK e l=e l[k]
 | [],_,h,_,_=>by cases h
 |x::xs,0,_,_,h2=>by
  have h2:e x≠0:=h2;show(if e x=0 then dK e xs else e x)=e x
  rw [if_neg h2]
 |x::xs,k+1,h,h1,h2=>by
  have h1:(if e x=0 then dK e (xs.take k)else e x)=0:=h1;show(if e x=0 then dK e xs else e x)=e (xs[k]'(by simpa using h))
  by_cases hx:e x=0
  · rw [if_pos hx]at h1⊢
    exact RX e xs k (by simpa using h) h1 h2
  · rw [if_neg hx]at h1;exact absurd h1 hx
theorem MR{α β:Type}(f:α->β)(e:β->Nat):∀l:List α,dK e (l.map f)=dK (fun x=>e (f x)) l
 | []=>rfl
 |x::xs=>by
  show(if e (f x)=0 then dK e (xs.map f)else e (f x))=(if e (f x)=0 then dK (fun x=>e (f x)) xs else e (f x))
  rw [MR f e xs]
def NmK(c:Cf):Prop:=∀g∈c.gs,g.key.length=68/\ g.name.length<=1000000
def Ef(y:GV):Nat:=jX y.g
theorem MS(x:Cf)(a c:Value)(w:World)(hx:Ai w w.heap.size x a c)(hnk:NmK x):Calls Tryz.prog 71 #[ji x a c] w (aaF (vC x) w):=by
 obtain⟨V,hV⟩:=aqx (w.alloc (.cells (vec 3 (eX x.ver a c)) 31));have k1:aU V w.heap.size 31 3 (eX x.ver a c):=(by rw [hV];exact aU.new w _ _ _);have hB:Below w.heap.size w V:=(by rw [hV];exact(aC _ _).alloc (aj _) _);obtain⟨x0,x1,x2⟩:=vF k1;obtain⟨⟨A,d,ys,rfl,hm,hr,hl⟩,⟨A2,d2,rfl,hr2,hl2⟩⟩:=hx.up hB;have hlen:x.gs.length=ys.length:=(by rw [<-hm,List.length_map]);obtain⟨G,hG⟩:=aqx (vC x);have af':∀y∈ys,y.g.key.length=68/\ y.g.name.length<=1000000:=(fun y hy=>hnk _ (by rw [<-hm];exact List.mem_map_of_mem hy));have hE:dK jX x.gs=dK Ef ys:=(by rw [<-hm,MR];rfl);have OT:Hid (G=if(inB x.gs.length 1 16&&inB x.dH.length 0 32)=false then 142 else if dK Ef ys=0 then jg (x.dH.any kM)else dK Ef ys):=ah (by rw [hG, <-hE];rfl);rw [<-hG];have HCH:=ah (fun W (h:Below V.heap.size V W)=>MO x.dH A2 d2 W hl2 (hr2.up h));obtain⟨cb,hcb⟩:=aqx (x.dH.any kM);rw [<-hcb]at OT HCH;unfold ji aaF;obtain⟨N,hN⟩:=aqx (x.gs.length);obtain⟨M,hM⟩:=aqx (x.dH.length);rw [<-hN]at x1 hl hV OT⊢;rw [<-hM]at x2 hl2 hV OT HCH⊢;have Io:Hid (N=ys.length):=ah (by rw [hN,hlen]);have HR:=ah hr;have HNK:=ah af';have HK:=ah hB;have HW:=ah hV;have H1:=ah (fun W=>Ik (N:Int) W);have H2:=ah (fun W=>Ed (M:Int) W);have hc:=or2 (!inB (N:Int) 1 16) (!inB (M:Int) 0 32);obtain⟨b1,r1⟩:=aqx (inB (N:Int) 1 16);obtain⟨b2,r2⟩:=aqx (inB (M:Int) 0 32);rw [<-r1]at H1 OT;rw [<-r2]at H2 OT;clear hV k1 hB hr hr2 hx hm hlen hG hN hM r1 r2 hc hnk af' hE hcb;go_enter Tryz.func71,Tryz.ntmps71;go_upto_region 1 with fail
 rw [<-HW.out];clear HW;cases b1
 · have HF:Hid (G=142):=ah (by rw [OT.out];rfl)
   go_wp2_with(go_at_call 107;refine(H1.out _).mono ?_;rintro e w1 ⟨rfl,rfl⟩)
   go_ret;exact⟨by rw [HF.out];rfl,HK.out⟩
 cases b2
 · have HF:Hid (G=142):=ah (by rw [OT.out];rfl)
   go_wp2_with(first|(go_at_call 107;refine(H1.out _).mono ?_;rintro e w1 ⟨rfl,rfl⟩)|(go_at_call 108;refine(H2.out _).mono ?_;rintro e w2 ⟨rfl,rfl⟩))
   go_ret;exact⟨by rw [HF.out];rfl,HK.out⟩
 have Le:Hid (G=if dK Ef ys=0 then jg cb else dK Ef ys):=ah (by rw [OT.out];rfl);clear OT;go_upto_region 3 with(first|(go_at_call 107;refine(H1.out _).mono ?_;rintro e w1 ⟨rfl,rfl⟩)|(go_at_call 108;refine(H2.out _).mono ?_;rintro e w2 ⟨rfl,rfl⟩))
 have MV:=ah x2;have HX1:=ah x1;clear x2 H1 H2;go_wp2_with fail
 go_loopw [4,5,21] (fun _ _ v W=>∃k:Nat,k<=N/\ v= .int .i64 k/\ Hid (dK Ef (ys.take k)=0)/\ Hid (Below V.heap.size V W)) (fun _ _ i _=>N-(intOf i).toNat)
 case atStart=>exact⟨0,aB _,rfl,ah rfl,ah (aC _ _)⟩
 case round=>
   obtain⟨k,hk,rfl,Ap,HB⟩:=hrel;obtain⟨W,hW⟩:=aqx wr;subst hW;by_cases hlt0:k<N
   · have hlt:k<ys.length:=by have:=Io.out;omega
     have g1:=HR.out.up HB.out;obtain⟨a,p,rfl,hp,-,hcp⟩:=g1.row.at hlt;obtain⟨y,hy⟩:=aqx (ys[k]);rw [<-hy]at hcp;have ry:qI W W.heap.size y:=(by rw [hy];exact g1.all _ (ay _));have hyk:=HNK.out ys[k] (ay _);rw [<-hy]at hyk;have qR:Hid (Ef y≠0->G=Ef y):=ah (fun h=>by
       have:=RX Ef ys k hlt Ap.out (by rw [<-hy];exact h);rw [<-hy]at this;rw [Le.out,this,if_neg h])
     have je:Hid (Ef y=0->dK Ef (ys.take (k+1))=0):=ah (fun h=>IZ _ _ _ hlt Ap.out (by rw [<-hy];exact h));have h1:=ry.one;have hki:(k:Int)< (N:Int):=(by omega);obtain⟨X,hX⟩:=aqx ((W.alloc (.cells (vec 79 (aT vw)) 63)).setRow W.heap.size (vec 79 (aT y)));have b1:Below W.heap.size W X:=(by rw [hX];exact bg ((aC _ _).alloc (aj _) _) (aj _) _);have a1:aU X W.heap.size 63 79 (aT y):=(by rw [hX];exact(aU.new W _ _ _).row _);have fU:=ah (HB.out.trans (b1.mono HB.out.size));have gI:=ah hcp;have HX:=ah hX;have HA:=ah a1;have HRG:=ah (CO y X ((ry.below b1).wide b1.size) hyk.1 hyk.2);have Ig:=ah h1;obtain⟨n,hn⟩:=aqx (Ef y);rw [<-hn]at qR je;rw [show jX y.g=n from hn.symm]at HRG;clear g1 hcp ry hy hlt h1 hX b1 a1 hyk hn;go_upto_region 6 with(first
       |((with_reducible refine aqy (.load _ _) ?_);refine bC rfl 63 _ rfl p rfl _ (aW gI.out Tryz.underlying63 rfl dU) ?_)
       |((with_reducible refine aqy (.store _ _ _) ?_);refine bD rfl 63 _ _ rfl _ rfl _ rfl (aS (aU.new W _ _ _) (aT y) dU (fC _ Ig.out _)) ?_))
     rw [<-HX.out];clear HX gI;by_cases hn:n=0
     · subst hn
       have HS:=ah (je.out rfl);clear je qR;go_wp2_with(first
        |((with_reducible refine aqy (.load _ _) ?_);refine bM rfl 63 _ rfl _ rfl _ (aQ HA.out Tryz.underlying63 rfl dU) ?_)
        |(go_at_call 109;refine HRG.out.mono ?_;rintro e w1 ⟨rfl,hd⟩;have HD:=ah hd;clear hd))
       go_roundw
       case rel=>exact⟨k+1,by omega,by go_num,HS,ah (fU.out.trans (HD.out.mono fU.out.size))⟩
       case measure=>simp [intOf];omega
     · have HF:=ah (qR.out hn)
       have n1:((n:Int) !=0)=true:=bne_iff_ne.2 (by omega);have n2:¬ (n:Int)=0:=(by omega);clear je qR hn;go_wp2_with(first
        |((with_reducible refine aqy (.load _ _) ?_);refine bM rfl 63 _ rfl _ rfl _ (aQ HA.out Tryz.underlying63 rfl dU) ?_)
        |(go_at_call 109;refine HRG.out.mono ?_;rintro e w1 ⟨rfl,hd⟩;have HD:=ah hd;clear hd))
       go_ret;exact⟨by rw [HF.out];rfl,HK.out.trans ((fU.out.trans (HD.out.mono fU.out.size)).mono HK.out.size)⟩
   · obtain rfl:k=N:=by omega
     have HF:Hid (G=jg cb):=ah (by
       have h:=Ap.out;rw [Io.out,List.take_length]at h;rw [Le.out,h,if_pos rfl])
     have x2:W.cell? ⟨w.heap.size,2,none⟩=_:=(HB.out.cell (aG V _ MV.out)).trans MV.out;clear hlt0;cases cb
     · go_wp2_with(go_at_call 110;refine(HCH.out _ HB.out).mono ?_;rintro e w1 ⟨rfl,hd⟩;have HD:=ah hd;clear hd)
       go_ret;exact⟨by rw [HF.out];rfl,HK.out.trans ((HB.out.trans (HD.out.mono HB.out.size)).mono HK.out.size)⟩
     · go_wp2_with(go_at_call 110;refine(HCH.out _ HB.out).mono ?_;rintro e w1 ⟨rfl,hd⟩;have HD:=ah hd;clear hd)
       go_ret;exact⟨by rw [HF.out];rfl,HK.out.trans ((HB.out.trans (HD.out.mono HB.out.size)).mono HK.out.size)⟩
open Go.RowKit
attribute [local go_sem ↓ high] gZ
def PV(p:Part):Nat->Value:=fun _=>cZ p
theorem aaH(l:List Part):cellsE 1 PV l=l.map cZ:=cells_one cZ l
structure nO(base:Nat)(w:World)(ps:List Part)(v:Value):Prop where
 row:gW 78 1 PV w base v ps
 own:∀p∈ps,OwnB w base (cZ p) p.2.2
 off:∀p∈ps,∀k,(cZ p).ownBlock=some k->v.ownBlock≠some k
theorem nO.nil(base:Nat)(w:World):nO base w [] (.slice none 0 0):=⟨gW.nil _ _,(fun _ h=>by cases h),(fun _ h=>by cases h)⟩
theorem nO.on{base m:Nat}{w w':World}{ps:List Part}{v:Value}(h:nO base w ps v)(hs:Below m w w')(hm:w.heap.size<=m):nO base w' ps v:=
 ⟨h.row.on hs hm,fun p hp=>(h.own p hp).on hs hm,h.off⟩
theorem I4:(Tryz.prog.info? 78).map (fun i=>(i.zero,i.size,i.bytes))=some (some (.slice none 0 0),1,24):=by kernel_rfl
theorem qJ(p:Part)(w:World):(Instr.buildSlice 196 1 #[(0,cZ p)]).run Tryz.prog w= .ok (.slice (some ⟨w.heap.size,0,none⟩) 1 1) (w.alloc (.cells (vec 1 (PV p)) 78)):=by
 obtain⟨i0,hi,hz0,hz1,hz2⟩:=info_parts I4;refine run_buildSlice (P:=Tryz.prog) w 196 78 1 _ _ i0 (.slice none 0 0) Tryz.underlying196 hi hz0 (by rw [hz1];decide) (by rw [hz1];decide) ?_;rw [hz1]
 kernel_rfl
theorem nO.app{base:Nat}{w w1:World}{ps:List Part}{v:Value}{p:Part}(h:nO base w ps v)(hs:Below w.heap.size w w1)(hb:base<=w.heap.size)(hl:ps.length<=1000)(ho:OwnB w1 w.heap.size (cZ p) p.2.2):
   ∃B d w2,(uZ #[196,196] 196 #[v,.slice (some ⟨w1.heap.size,0,none⟩) 1 1]).run Tryz.prog (w1.alloc (.cells (vec 1 (PV p)) 78))= .ok (.slice B (ps.length+1) d) w2/\ nO base w2 (ps++ [p]) (.slice B (ps.length+1) d)/\ Below base w1 w2:=by
 have h3:=h.row.on hs (aj _);obtain⟨B,d,w2,hr,h5,h6,h7,h8,h9⟩:=CB (P:=Tryz.prog) Tryz.underlying196 I4 rfl (by decide) p (fun _ _=>rfl) h3 (aA hb hs.size) (by omega) (by decide) 196;have hvb:∀k,v.ownBlock=some k->k<w.heap.size:=(fun k hk=>(h.row.bnd hk).2);refine⟨B,d,w2,hr,⟨h5,fun z hz=> ?_,fun z hz k hk=> ?_⟩,h6⟩
 · rcases List.mem_append.1 hz with hz|hz
   · exact((h.own z hz).on hs (aj _)).AU h8 (h.off z hz)
   · obtain rfl:z=p:=by simpa using hz
     exact((ho.AU h8 (fun k hk e=>by have:=hvb k e;have:=(ho.bnd hk).1;omega))).low hb
 · rcases List.mem_append.1 hz with hz|hz
   · rcases h9 with e|e<;>rw [e]
     · exact h.off z hz k hk
     · intro e2;injection e2 with e2;have:=((h.own z hz).bnd hk).2;have:=hs.size;omega
   · obtain rfl:z=p:=by simpa using hz
     rcases h9 with e|e<;>rw [e]
     · intro e2;have:=hvb k e2;have:=(ho.bnd hk).1;omega
     · intro e2;injection e2 with e2;have:=(ho.bnd hk).2;omega
theorem MW(ps:List Part)(p:Part):dQ (ps++ [p])=dQ ps++p.2.2:=by simp [dQ]
theorem nO.cat{base:Nat}{w:World}{ps:List Part}{v:Value}(h:nO base w ps v)(htot:(dQ ps).length<=70368744177664)(hn:ps.length<=1000):Calls Tryz.prog 112 #[v] w (Bytes w (dQ ps)):=by
 obtain⟨A,c,e,_,hr,_⟩:=h.row.form;subst e;refine yc ps A c w.heap.size w (aj _) (hr.lies (aaH ps)) (fun p hp=> ?_) htot (by unfold maxLen;omega);obtain⟨A2,c2,e2,_,hl⟩:=(h.own p hp).lies;have e3:Value.slice p.1 p.2.2.length p.2.1= .slice A2 p.2.2.length c2:=e2;injection e3 with e4 _ _
 rw [e4];exact hl
structure zI{α:Type}(lay:α->By)(l:List α)(w W:World)(k:Nat)(v:Value):Prop where
 ex:∃ps,ps.length=k/\ dQ ps=(l.take k).flatMap lay/\ nO w.heap.size W ps v
 bel:Below w.heap.size w W
theorem zI.step{α:Type}{lay:α->By}{l:List α}{w W W1:World}{k:Nat}{v u:Value}(h:zI lay l w W k v)(hk:k<l.length)(hk9:k<=1000)(hs:Below W.heap.size W W1)(ho:OwnB W1 W.heap.size u (lay l[k])):
  ∃p:Part,u=cZ p/\ ∃B d w2,(uZ #[196,196] 196 #[v,.slice (some ⟨W1.heap.size,0,none⟩) 1 1]).run Tryz.prog (W1.alloc (.cells (vec 1 (PV p)) 78))= .ok (.slice B (k+1) d) w2/\ zI lay l w w2 (k+1) (.slice B (k+1) d):=by
 obtain⟨ps,h1,h2,h3⟩:=h.ex;obtain⟨A,c,e,_,_⟩:=ho.lies;obtain⟨B,d,w2,hr,hp,hb⟩:=nO.app (p:=(A,c,lay l[k])) h3 hs h.bel.size (by omega) (by show OwnB W1 W.heap.size (.slice A (lay l[k]).length c) _;rw [<-e];exact ho);refine⟨(A,c,lay l[k]),e,B,d,w2,by rw [h1]at hr;exact hr,⟨ps++ [(A,c,lay l[k])],by simp [h1], ?_,by rw [h1]at hp;exact hp⟩,(h.bel.trans (hs.mono h.bel.size)).trans hb⟩;show dQ (ps++ [(A,c,lay l[k])])=(l.take (k+1)).flatMap lay
 rw [MW,h2,aO hk,List.flatMap_append];simp
section
variable {P : Program} {w w' : World} {ops : Array Oper} {rest : List Oper} {o : Oper} {a : Act} {Q : Exit -> Act -> World -> Prop}
end
open Go.RowKit
attribute [local go_sem ↓ high] gZ
theorem kC{α:Type}(f:α->By)(m:Nat)(h:∀x,(f x).length=m):∀l:List α,(l.flatMap f).length=l.length*m
 | []=>by simp
 |x::xs=>by rw [List.flatMap_cons,List.length_append,h,kC f m h xs,List.length_cons];rw [Nat.succ_mul];omega
def acM(ns:List Nat):List Value:=ns.map fun(n:Nat)=>Value.int .i64 (n:Int)
theorem bH(ns:List Nat)(hns:∀n∈ns,n<65536)(D:Option Addr)(c:Nat)(w:World)(hl:ns.length<=1000)(h:Lies w w.heap.size 1 D ns.length (acM ns)):Calls Tryz.prog 114 #[.slice D ns.length c] w (Bytes w (ns.flatMap (be 2))):=by
 have H:=ah h;have HNS:=ah hns;clear h hns;unfold Bytes;go_enter Tryz.func114,Tryz.ntmps114;go_wp2
 go_loopw [3,5,8] (fun vo _ vi W=>∃ (k d:Nat) (B:Option Addr),k<=ns.length/\ vi= .int .i64 k/\ vo= .slice B (2*k) d/\ Hid (OwnB W w.heap.size (.slice B (2*k) d) ((ns.take k).flatMap (be 2))/\ Below w.heap.size w W)) (fun _ _ i _=>ns.length-(intOf i).toNat)
 case atStart=>exact⟨0,0,none,aB _,rfl,rfl,ah ⟨gW.nil _ _,aC _ _⟩⟩
 case round=>
  obtain⟨k,d,B,hk,rfl,rfl,HO⟩:=hrel;obtain⟨W,hW⟩:=aqx wr;subst hW;by_cases hlt:k<ns.length
  · have hm:=HNS.out ns[k] (ay hlt)
    obtain⟨a,hx,rfl,hb,hcell⟩:=(H.out.below HO.out.2).DK hlt;obtain⟨m,hmm⟩:=aqx (ns[k]);rw [<-hmm]at hm hcell;have e1:IntKind.u8.wrap ((m:Int)/256)=((UInt8.ofNat (m/256)).toNat:Int):=(by rw [IntKind.wrap_u8,UInt8.toNat_ofNat'];omega);have e2:IntKind.u8.wrap (m:Int)=((UInt8.ofNat (m% 256)).toNat:Int):=(by rw [IntKind.wrap_u8,UInt8.toNat_ofNat'];omega);obtain⟨x,hxx⟩:=aqx (UInt8.ofNat (m/256));obtain⟨y,hyy⟩:=aqx (UInt8.ofNat (m% 256));rw [<-hxx]at e1;rw [<-hyy]at e2;have hlen:((ns.take k).flatMap (be 2)).length=2*k:=by
     rw [kC (be 2) 2 (fun n=>kU 2 n),List.length_take,Nat.min_eq_left (by omega)];omega
    obtain⟨B2,d2,w2,hrun,ho2,hb2⟩:=aar x y HO.out.1 HO.out.2.size (by rw [hlen];omega);rw [hlen]at hrun ho2;have hs:(ns.take (k+1)).flatMap (be 2)=(ns.take k).flatMap (be 2)++ [x,y]:=by
     rw [List.take_add_one,aF hlt,List.flatMap_append,hxx,hyy, <-acC m hm,hmm];simp
    rw [<-hs]at ho2;have HN:Hid (OwnB w2 w.heap.size (.slice B2 (2*(k+1)) d2) ((ns.take (k+1)).flatMap (be 2))/\ Below w.heap.size w w2):=ah ⟨ho2,HO.out.2.trans hb2⟩;have hki:(k:Int)< (ns.length:Int):=(by omega);have FH:=ah hlt;have hbt:=Ug ((x.toNat:Nat):Int) ((y.toNat:Nat):Int) W;clear ho2 hb2 hs hlen hxx hyy hmm hx hlt hk;go_wp2_with fail
    go_roundw
    case rel=>exact⟨k+1,d2,B2,FH.out,by go_num,rfl,HN⟩
    case measure=>have:=FH.out;simp [intOf];omega
  · obtain rfl:k=ns.length:=by omega
    clear hlt;go_wp2_with fail
    go_ret;have h1:=HO.out.1;rw [List.take_length]at h1;exact⟨_,rfl,WU h1,HO.out.2⟩
open Go.RowKit
attribute [local go_sem ↓ high] gZ oU zq xE zu sW oZ
theorem acN(l:List Wi)(A:Option Addr)(c:Nat)(w:World)(hl:l.length<=1000)(h1:bI 4 bG w w.heap.size A l)(htot:(l.flatMap jH).length<=70368744177664)
  (hL:∀j (h:j<l.length) Y,Below w.heap.size w Y->Calls Tryz.prog 153 #[.agg (vec 4 (bG l[j]))] Y (Bytes Y (jH l[j]))):
  Calls Tryz.prog 152 #[.slice A l.length c,.func (.func 153) #[] #[]] w (Bytes w (l.flatMap jH)):=by
 have H1:=ah h1;have HL:=ah hL;have HT:=ah htot;obtain⟨N,hN⟩:=aqx (l.length);have HN:=ah hN;rw [<-hN]at hl⊢;obtain⟨R,hR⟩:=aqx (l.flatMap jH);have HR:=ah hR;rw [<-hR];unfold Bytes;clear h1 hL htot hN hR;go_enter Tryz.func152,Tryz.ntmps152;go_wp2
 go_loopw [5,7,10] (fun vo _ vi W=>∃ (k d:Nat) (B:Option Addr),k<=N/\ vi= .int .i64 k/\ vo= .slice B k d/\ Hid (zI jH l w W k (.slice B k d))) (fun _ _ i _=>N-(intOf i).toNat)
 case atStart=>exact⟨0,0,none,aB _,rfl,rfl,ah ⟨⟨[],rfl,rfl,nO.nil _ _⟩,aC _ _⟩⟩
 case round=>
  obtain⟨k,d,B,hk,rfl,rfl,HP⟩:=hrel;obtain⟨W,hW⟩:=aqx wr;subst hW;by_cases hlt0:k<N
  · have hlt:k<l.length:=by have:=HN.out;omega
    have hB:=HP.out.bel;have g1:=H1.out.up hB;obtain⟨a,p,rfl,hp,-,hcp⟩:=g1.at hlt;obtain⟨x,hx⟩:=aqx (l[k]);rw [<-hx]at hcp;obtain⟨X,hX⟩:=aqx ((W.alloc (.cells (vec 4 (bG JJ)) 67)).setRow W.heap.size (vec 4 (bG x)));have b1:Below W.heap.size W X:=(by rw [hX];exact bg ((aC _ _).alloc (aj _) _) (aj _) _);have a1:aU X W.heap.size 67 4 (bG x):=(by rw [hX];exact(aU.new W _ _ _).row _);have MX:=ah (HL.out k hlt X (hB.trans (b1.mono hB.size)));rw [<-hx]at MX;have HST:Hid (∀ (W1:World) (u:Value),Below X.heap.size X W1->W1.ownsRow X.heap.size 5 1 u (jH x).length (jF (jH x))->∃pp:Part,u=cZ pp/\ ∃B2 d2 w2,(uZ #[196,196] 196 #[.slice B k d,.slice (some ⟨W1.heap.size,0,none⟩) 1 1]).run Tryz.prog (W1.alloc (.cells (vec 1 (PV pp)) 78))= .ok (.slice B2 (k+1) d2) w2/\ zI jH l w w2 (k+1) (.slice B2 (k+1) d2)):=ah (fun W1 u hd hv=>by
     have:=HP.out.step hlt (by omega) (b1.trans (hd.mono b1.size)) (u:=u) (by rw [<-hx];exact(bf hv).low b1.size);exact this)
    have hki:(k:Int)< (N:Int):=(by omega);have gI:=ah hcp;have HX:=ah hX;have HA:=ah a1;have FH:=ah hlt0;clear g1 hcp hx hlt hX b1 a1 hB hlt0;go_upto_region 5 with(first
     |((with_reducible refine aqy (.load _ _) ?_);refine bC rfl 67 _ rfl p rfl _ (aW gI.out Tryz.underlying67 rfl gQ) ?_)
     |((with_reducible refine aqy (.store _ _ _) ?_);refine bD rfl 67 _ _ rfl _ rfl _ rfl (aS (aU.new W _ _ _) (bG x) gQ (mZ _ _)) ?_))
    rw [<-HX.out];clear HX gI;go_wp2_with(first
     |((with_reducible refine aqy (.load _ _) ?_);refine bM rfl 67 _ rfl _ rfl _ (aQ HA.out Tryz.underlying67 rfl gQ) ?_)
     |((with_reducible refine aqy (.buildSlice _ _ _) ?_);refine uP rfl _ rfl _ rfl (qJ pp w1) ?_)
     |(go_at_call 153;refine MX.out.mono ?_;rintro e w1 ⟨v,rfl,hv,hd⟩;obtain⟨pp,rfl,B2,d2,w2,hrun,hn⟩:=HST.out w1 v hd hv;have H4:=ah hn;clear hv hd hn))
    go_roundw
    case rel=>exact⟨k+1,d2,B2,FH.out,by go_num,rfl,H4⟩
    case measure=>have:=FH.out;simp [intOf];omega
  · obtain rfl:k=N:=by omega
    have HC:Hid (Calls Tryz.prog 112 #[.slice B k d] W (Bytes W R)):=ah (by
     obtain⟨ps,q1,q2,q3⟩:=HP.out.ex;rw [HN.out,List.take_length, <-HR.out]at q2;have:=q3.cat (by rw [q2,HR.out];exact HT.out) (by omega);rw [q2]at this;exact this)
    have HB:=ah HP.out.bel;clear hlt0;go_wp2_with(go_at_call 112;refine HC.out.mono ?_;rintro e w1 ⟨v,rfl,hv,hd⟩;have HV:=ah (ak hv hd);clear hv hd)
    go_ret;exact⟨_,rfl,iK HV.out.1 HB.out.size,HB.out.trans (HV.out.2.mono HB.out.size)⟩
theorem acO(l:List De)(A:Option Addr)(c:Nat)(w:World)(hl:l.length<=1000)(h1:bI 3 iC w w.heap.size A l)(htot:(l.flatMap jL).length<=70368744177664)
  (hL:∀j (h:j<l.length) Y,Below w.heap.size w Y->Calls Tryz.prog 155 #[.agg (vec 3 (iC l[j]))] Y (Bytes Y (jL l[j]))):
  Calls Tryz.prog 154 #[.slice A l.length c,.func (.func 155) #[] #[]] w (Bytes w (l.flatMap jL)):=by
 have H1:=ah h1;have HL:=ah hL;have HT:=ah htot;obtain⟨N,hN⟩:=aqx (l.length);have HN:=ah hN;rw [<-hN]at hl⊢;obtain⟨R,hR⟩:=aqx (l.flatMap jL);have HR:=ah hR;rw [<-hR];unfold Bytes;clear h1 hL htot hN hR;go_enter Tryz.func154,Tryz.ntmps154;go_wp2
 go_loopw [5,7,10] (fun vo _ vi W=>∃ (k d:Nat) (B:Option Addr),k<=N/\ vi= .int .i64 k/\ vo= .slice B k d/\ Hid (zI jL l w W k (.slice B k d))) (fun _ _ i _=>N-(intOf i).toNat)
 case atStart=>exact⟨0,0,none,aB _,rfl,rfl,ah ⟨⟨[],rfl,rfl,nO.nil _ _⟩,aC _ _⟩⟩
 case round=>
  obtain⟨k,d,B,hk,rfl,rfl,HP⟩:=hrel;obtain⟨W,hW⟩:=aqx wr;subst hW;by_cases hlt0:k<N
  · have hlt:k<l.length:=by have:=HN.out;omega
    have hB:=HP.out.bel;have g1:=H1.out.up hB;obtain⟨a,p,rfl,hp,-,hcp⟩:=g1.at hlt;obtain⟨x,hx⟩:=aqx (l[k]);rw [<-hx]at hcp;obtain⟨X,hX⟩:=aqx ((W.alloc (.cells (vec 3 (iC zDe)) 83)).setRow W.heap.size (vec 3 (iC x)));have b1:Below W.heap.size W X:=(by rw [hX];exact bg ((aC _ _).alloc (aj _) _) (aj _) _);have a1:aU X W.heap.size 83 3 (iC x):=(by rw [hX];exact(aU.new W _ _ _).row _);have MX:=ah (HL.out k hlt X (hB.trans (b1.mono hB.size)));rw [<-hx]at MX;have HST:Hid (∀ (W1:World) (u:Value),Below X.heap.size X W1->W1.ownsRow X.heap.size 5 1 u (jL x).length (jF (jL x))->∃pp:Part,u=cZ pp/\ ∃B2 d2 w2,(uZ #[196,196] 196 #[.slice B k d,.slice (some ⟨W1.heap.size,0,none⟩) 1 1]).run Tryz.prog (W1.alloc (.cells (vec 1 (PV pp)) 78))= .ok (.slice B2 (k+1) d2) w2/\ zI jL l w w2 (k+1) (.slice B2 (k+1) d2)):=ah (fun W1 u hd hv=>by
     have:=HP.out.step hlt (by omega) (b1.trans (hd.mono b1.size)) (u:=u) (by rw [<-hx];exact(bf hv).low b1.size);exact this)
    have hki:(k:Int)< (N:Int):=(by omega);have gI:=ah hcp;have HX:=ah hX;have HA:=ah a1;have FH:=ah hlt0;clear g1 hcp hx hlt hX b1 a1 hB hlt0;go_upto_region 5 with(first
     |((with_reducible refine aqy (.load _ _) ?_);refine bC rfl 83 _ rfl p rfl _ (aW gI.out Tryz.underlying83 rfl qG) ?_)
     |((with_reducible refine aqy (.store _ _ _) ?_);refine bD rfl 83 _ _ rfl _ rfl _ rfl (aS (aU.new W _ _ _) (iC x) qG (xC _ _)) ?_))
    rw [<-HX.out];clear HX gI;go_wp2_with(first
     |((with_reducible refine aqy (.load _ _) ?_);refine bM rfl 83 _ rfl _ rfl _ (aQ HA.out Tryz.underlying83 rfl qG) ?_)
     |((with_reducible refine aqy (.buildSlice _ _ _) ?_);refine uP rfl _ rfl _ rfl (qJ pp w1) ?_)
     |(go_at_call 155;refine MX.out.mono ?_;rintro e w1 ⟨v,rfl,hv,hd⟩;obtain⟨pp,rfl,B2,d2,w2,hrun,hn⟩:=HST.out w1 v hd hv;have H3:=ah hn;clear hv hd hn))
    go_roundw
    case rel=>exact⟨k+1,d2,B2,FH.out,by go_num,rfl,H3⟩
    case measure=>have:=FH.out;simp [intOf];omega
  · obtain rfl:k=N:=by omega
    have HC:Hid (Calls Tryz.prog 112 #[.slice B k d] W (Bytes W R)):=ah (by
     obtain⟨ps,q1,q2,q3⟩:=HP.out.ex;rw [HN.out,List.take_length, <-HR.out]at q2;have:=q3.cat (by rw [q2,HR.out];exact HT.out) (by omega);rw [q2]at this;exact this)
    have HB:=ah HP.out.bel;clear hlt0;go_wp2_with(go_at_call 112;refine HC.out.mono ?_;rintro e w1 ⟨v,rfl,hv,hd⟩;have HV:=ah (ak hv hd);clear hv hd)
    go_ret;exact⟨_,rfl,iK HV.out.1 HB.out.size,HB.out.trans (HV.out.2.mono HB.out.size)⟩
theorem acP(l:List Ir)(A:Option Addr)(c:Nat)(w:World)(hl:l.length<=1000)(h1:bI 3 dV w w.heap.size A l)(htot:(l.flatMap jM).length<=70368744177664)
  (hL:∀j (h:j<l.length) Y,Below w.heap.size w Y->Calls Tryz.prog 157 #[.agg (vec 3 (dV l[j]))] Y (Bytes Y (jM l[j]))):
  Calls Tryz.prog 156 #[.slice A l.length c,.func (.func 157) #[] #[]] w (Bytes w (l.flatMap jM)):=by
 have H1:=ah h1;have HL:=ah hL;have HT:=ah htot;obtain⟨N,hN⟩:=aqx (l.length);have HN:=ah hN;rw [<-hN]at hl⊢;obtain⟨R,hR⟩:=aqx (l.flatMap jM);have HR:=ah hR;rw [<-hR];unfold Bytes;clear h1 hL htot hN hR;go_enter Tryz.func156,Tryz.ntmps156;go_wp2
 go_loopw [5,7,10] (fun vo _ vi W=>∃ (k d:Nat) (B:Option Addr),k<=N/\ vi= .int .i64 k/\ vo= .slice B k d/\ Hid (zI jM l w W k (.slice B k d))) (fun _ _ i _=>N-(intOf i).toNat)
 case atStart=>exact⟨0,0,none,aB _,rfl,rfl,ah ⟨⟨[],rfl,rfl,nO.nil _ _⟩,aC _ _⟩⟩
 case round=>
  obtain⟨k,d,B,hk,rfl,rfl,HP⟩:=hrel;obtain⟨W,hW⟩:=aqx wr;subst hW;by_cases hlt0:k<N
  · have hlt:k<l.length:=by have:=HN.out;omega
    have hB:=HP.out.bel;have g1:=H1.out.up hB;obtain⟨a,p,rfl,hp,-,hcp⟩:=g1.at hlt;obtain⟨x,hx⟩:=aqx (l[k]);rw [<-hx]at hcp;obtain⟨X,hX⟩:=aqx ((W.alloc (.cells (vec 3 (dV zIr)) 65)).setRow W.heap.size (vec 3 (dV x)));have b1:Below W.heap.size W X:=(by rw [hX];exact bg ((aC _ _).alloc (aj _) _) (aj _) _);have a1:aU X W.heap.size 65 3 (dV x):=(by rw [hX];exact(aU.new W _ _ _).row _);have MX:=ah (HL.out k hlt X (hB.trans (b1.mono hB.size)));rw [<-hx]at MX;have HST:Hid (∀ (W1:World) (u:Value),Below X.heap.size X W1->W1.ownsRow X.heap.size 5 1 u (jM x).length (jF (jM x))->∃pp:Part,u=cZ pp/\ ∃B2 d2 w2,(uZ #[196,196] 196 #[.slice B k d,.slice (some ⟨W1.heap.size,0,none⟩) 1 1]).run Tryz.prog (W1.alloc (.cells (vec 1 (PV pp)) 78))= .ok (.slice B2 (k+1) d2) w2/\ zI jM l w w2 (k+1) (.slice B2 (k+1) d2)):=ah (fun W1 u hd hv=>by
     have:=HP.out.step hlt (by omega) (b1.trans (hd.mono b1.size)) (u:=u) (by rw [<-hx];exact(bf hv).low b1.size);exact this)
    have hki:(k:Int)< (N:Int):=(by omega);have gI:=ah hcp;have HX:=ah hX;have HA:=ah a1;have FH:=ah hlt0;clear g1 hcp hx hlt hX b1 a1 hB hlt0;go_upto_region 5 with(first
     |((with_reducible refine aqy (.load _ _) ?_);refine bC rfl 65 _ rfl p rfl _ (aW gI.out Tryz.underlying65 rfl rJ) ?_)
     |((with_reducible refine aqy (.store _ _ _) ?_);refine bD rfl 65 _ _ rfl _ rfl _ rfl (aS (aU.new W _ _ _) (dV x) rJ (Fg _ _)) ?_))
    rw [<-HX.out];clear HX gI;go_wp2_with(first
     |((with_reducible refine aqy (.load _ _) ?_);refine bM rfl 65 _ rfl _ rfl _ (aQ HA.out Tryz.underlying65 rfl rJ) ?_)
     |((with_reducible refine aqy (.buildSlice _ _ _) ?_);refine uP rfl _ rfl _ rfl (qJ pp w1) ?_)
     |(go_at_call 157;refine MX.out.mono ?_;rintro e w1 ⟨v,rfl,hv,hd⟩;obtain⟨pp,rfl,B2,d2,w2,hrun,hn⟩:=HST.out w1 v hd hv;have H3:=ah hn;clear hv hd hn))
    go_roundw
    case rel=>exact⟨k+1,d2,B2,FH.out,by go_num,rfl,H3⟩
    case measure=>have:=FH.out;simp [intOf];omega
  · obtain rfl:k=N:=by omega
    have HC:Hid (Calls Tryz.prog 112 #[.slice B k d] W (Bytes W R)):=ah (by
     obtain⟨ps,q1,q2,q3⟩:=HP.out.ex;rw [HN.out,List.take_length, <-HR.out]at q2;have:=q3.cat (by rw [q2,HR.out];exact HT.out) (by omega);rw [q2]at this;exact this)
    have HB:=ah HP.out.bel;clear hlt0;go_wp2_with(go_at_call 112;refine HC.out.mono ?_;rintro e w1 ⟨v,rfl,hv,hd⟩;have HV:=ah (ak hv hd);clear hv hd)
    go_ret;exact⟨_,rfl,iK HV.out.1 HB.out.size,HB.out.trans (HV.out.2.mono HB.out.size)⟩
theorem acQ(l:List En)(A:Option Addr)(c:Nat)(w:World)(hl:l.length<=1000)(h1:bI 3 dY w w.heap.size A l)(htot:(l.flatMap jI).length<=70368744177664)
  (hL:∀j (h:j<l.length) Y,Below w.heap.size w Y->Calls Tryz.prog 159 #[.agg (vec 3 (dY l[j]))] Y (Bytes Y (jI l[j]))):
  Calls Tryz.prog 158 #[.slice A l.length c,.func (.func 159) #[] #[]] w (Bytes w (l.flatMap jI)):=by
 have H1:=ah h1;have HL:=ah hL;have HT:=ah htot;obtain⟨N,hN⟩:=aqx (l.length);have HN:=ah hN;rw [<-hN]at hl⊢;obtain⟨R,hR⟩:=aqx (l.flatMap jI);have HR:=ah hR;rw [<-hR];unfold Bytes;clear h1 hL htot hN hR;go_enter Tryz.func158,Tryz.ntmps158;go_wp2
 go_loopw [5,7,10] (fun vo _ vi W=>∃ (k d:Nat) (B:Option Addr),k<=N/\ vi= .int .i64 k/\ vo= .slice B k d/\ Hid (zI jI l w W k (.slice B k d))) (fun _ _ i _=>N-(intOf i).toNat)
 case atStart=>exact⟨0,0,none,aB _,rfl,rfl,ah ⟨⟨[],rfl,rfl,nO.nil _ _⟩,aC _ _⟩⟩
 case round=>
  obtain⟨k,d,B,hk,rfl,rfl,HP⟩:=hrel;obtain⟨W,hW⟩:=aqx wr;subst hW;by_cases hlt0:k<N
  · have hlt:k<l.length:=by have:=HN.out;omega
    have hB:=HP.out.bel;have g1:=H1.out.up hB;obtain⟨a,p,rfl,hp,-,hcp⟩:=g1.at hlt;obtain⟨x,hx⟩:=aqx (l[k]);rw [<-hx]at hcp;obtain⟨X,hX⟩:=aqx ((W.alloc (.cells (vec 3 (dY Ue)) 44)).setRow W.heap.size (vec 3 (dY x)));have b1:Below W.heap.size W X:=(by rw [hX];exact bg ((aC _ _).alloc (aj _) _) (aj _) _);have a1:aU X W.heap.size 44 3 (dY x):=(by rw [hX];exact(aU.new W _ _ _).row _);have MX:=ah (HL.out k hlt X (hB.trans (b1.mono hB.size)));rw [<-hx]at MX;have HST:Hid (∀ (W1:World) (u:Value),Below X.heap.size X W1->W1.ownsRow X.heap.size 5 1 u (jI x).length (jF (jI x))->∃pp:Part,u=cZ pp/\ ∃B2 d2 w2,(uZ #[196,196] 196 #[.slice B k d,.slice (some ⟨W1.heap.size,0,none⟩) 1 1]).run Tryz.prog (W1.alloc (.cells (vec 1 (PV pp)) 78))= .ok (.slice B2 (k+1) d2) w2/\ zI jI l w w2 (k+1) (.slice B2 (k+1) d2)):=ah (fun W1 u hd hv=>by
     have:=HP.out.step hlt (by omega) (b1.trans (hd.mono b1.size)) (u:=u) (by rw [<-hx];exact(bf hv).low b1.size);exact this)
    have hki:(k:Int)< (N:Int):=(by omega);have gI:=ah hcp;have HX:=ah hX;have HA:=ah a1;have FH:=ah hlt0;clear g1 hcp hx hlt hX b1 a1 hB hlt0;go_upto_region 5 with(first
     |((with_reducible refine aqy (.load _ _) ?_);refine bC rfl 44 _ rfl p rfl _ (aW gI.out Tryz.underlying44 rfl nX) ?_)
     |((with_reducible refine aqy (.store _ _ _) ?_);refine bD rfl 44 _ _ rfl _ rfl _ rfl (aS (aU.new W _ _ _) (dY x) nX (lM _ _)) ?_))
    rw [<-HX.out];clear HX gI;go_wp2_with(first
     |((with_reducible refine aqy (.load _ _) ?_);refine bM rfl 44 _ rfl _ rfl _ (aQ HA.out Tryz.underlying44 rfl nX) ?_)
     |((with_reducible refine aqy (.buildSlice _ _ _) ?_);refine uP rfl _ rfl _ rfl (qJ pp w1) ?_)
     |(go_at_call 159;refine MX.out.mono ?_;rintro e w1 ⟨v,rfl,hv,hd⟩;obtain⟨pp,rfl,B2,d2,w2,hrun,hn⟩:=HST.out w1 v hd hv;have H3:=ah hn;clear hv hd hn))
    go_roundw
    case rel=>exact⟨k+1,d2,B2,FH.out,by go_num,rfl,H3⟩
    case measure=>have:=FH.out;simp [intOf];omega
  · obtain rfl:k=N:=by omega
    have HC:Hid (Calls Tryz.prog 112 #[.slice B k d] W (Bytes W R)):=ah (by
     obtain⟨ps,q1,q2,q3⟩:=HP.out.ex;rw [HN.out,List.take_length, <-HR.out]at q2;have:=q3.cat (by rw [q2,HR.out];exact HT.out) (by omega);rw [q2]at this;exact this)
    have HB:=ah HP.out.bel;clear hlt0;go_wp2_with(go_at_call 112;refine HC.out.mono ?_;rintro e w1 ⟨v,rfl,hv,hd⟩;have HV:=ah (ak hv hd);clear hv hd)
    go_ret;exact⟨_,rfl,iK HV.out.1 HB.out.size,HB.out.trans (HV.out.2.mono HB.out.size)⟩
theorem acR(l:List Ch)(A:Option Addr)(c:Nat)(w:World)(hl:l.length<=1000)(h1:bI 8 kJ w w.heap.size A l)(htot:(l.flatMap kD).length<=70368744177664)
  (hL:∀j (h:j<l.length) Y,Below w.heap.size w Y->Calls Tryz.prog 118 #[.agg (vec 8 (kJ l[j]))] Y (Bytes Y (kD l[j]))):
  Calls Tryz.prog 117 #[.slice A l.length c,.func (.func 118) #[] #[]] w (Bytes w (l.flatMap kD)):=by
 have H1:=ah h1;have HL:=ah hL;have HT:=ah htot;obtain⟨N,hN⟩:=aqx (l.length);have HN:=ah hN;rw [<-hN]at hl⊢;obtain⟨R,hR⟩:=aqx (l.flatMap kD);have HR:=ah hR;rw [<-hR];unfold Bytes;clear h1 hL htot hN hR;go_enter Tryz.func117,Tryz.ntmps117;go_wp2
 go_loopw [5,7,10] (fun vo _ vi W=>∃ (k d:Nat) (B:Option Addr),k<=N/\ vi= .int .i64 k/\ vo= .slice B k d/\ Hid (zI kD l w W k (.slice B k d))) (fun _ _ i _=>N-(intOf i).toNat)
 case atStart=>exact⟨0,0,none,aB _,rfl,rfl,ah ⟨⟨[],rfl,rfl,nO.nil _ _⟩,aC _ _⟩⟩
 case round=>
  obtain⟨k,d,B,hk,rfl,rfl,HP⟩:=hrel;obtain⟨W,hW⟩:=aqx wr;subst hW;by_cases hlt0:k<N
  · have hlt:k<l.length:=by have:=HN.out;omega
    have hB:=HP.out.bel;have g1:=H1.out.up hB;obtain⟨a,p,rfl,hp,-,hcp⟩:=g1.at hlt;obtain⟨x,hx⟩:=aqx (l[k]);rw [<-hx]at hcp;obtain⟨X,hX⟩:=aqx ((W.alloc (.cells (vec 8 (kJ Uf)) 47)).setRow W.heap.size (vec 8 (kJ x)));have b1:Below W.heap.size W X:=(by rw [hX];exact bg ((aC _ _).alloc (aj _) _) (aj _) _);have a1:aU X W.heap.size 47 8 (kJ x):=(by rw [hX];exact(aU.new W _ _ _).row _);have MX:=ah (HL.out k hlt X (hB.trans (b1.mono hB.size)));rw [<-hx]at MX;have HST:Hid (∀ (W1:World) (u:Value),Below X.heap.size X W1->W1.ownsRow X.heap.size 5 1 u (kD x).length (jF (kD x))->∃pp:Part,u=cZ pp/\ ∃B2 d2 w2,(uZ #[196,196] 196 #[.slice B k d,.slice (some ⟨W1.heap.size,0,none⟩) 1 1]).run Tryz.prog (W1.alloc (.cells (vec 1 (PV pp)) 78))= .ok (.slice B2 (k+1) d2) w2/\ zI kD l w w2 (k+1) (.slice B2 (k+1) d2)):=ah (fun W1 u hd hv=>by
     have:=HP.out.step hlt (by omega) (b1.trans (hd.mono b1.size)) (u:=u) (by rw [<-hx];exact(bf hv).low b1.size);exact this)
    have hki:(k:Int)< (N:Int):=(by omega);have gI:=ah hcp;have HX:=ah hX;have HA:=ah a1;have FH:=ah hlt0;clear g1 hcp hx hlt hX b1 a1 hB hlt0;go_upto_region 5 with(first
     |((with_reducible refine aqy (.load _ _) ?_);refine bC rfl 47 _ rfl p rfl _ (aW gI.out Tryz.underlying47 rfl nJ) ?_)
     |((with_reducible refine aqy (.store _ _ _) ?_);refine bD rfl 47 _ _ rfl _ rfl _ rfl (aS (aU.new W _ _ _) (kJ x) nJ (vV _ _)) ?_))
    rw [<-HX.out];clear HX gI;go_wp2_with(first
     |((with_reducible refine aqy (.load _ _) ?_);refine bM rfl 47 _ rfl _ rfl _ (aQ HA.out Tryz.underlying47 rfl nJ) ?_)
     |((with_reducible refine aqy (.buildSlice _ _ _) ?_);refine uP rfl _ rfl _ rfl (qJ pp w1) ?_)
     |(go_at_call 118;refine MX.out.mono ?_;rintro e w1 ⟨v,rfl,hv,hd⟩;obtain⟨pp,rfl,B2,d2,w2,hrun,hn⟩:=HST.out w1 v hd hv;have H8:=ah hn;clear hv hd hn))
    go_roundw
    case rel=>exact⟨k+1,d2,B2,FH.out,by go_num,rfl,H8⟩
    case measure=>have:=FH.out;simp [intOf];omega
  · obtain rfl:k=N:=by omega
    have HC:Hid (Calls Tryz.prog 112 #[.slice B k d] W (Bytes W R)):=ah (by
     obtain⟨ps,q1,q2,q3⟩:=HP.out.ex;rw [HN.out,List.take_length, <-HR.out]at q2;have:=q3.cat (by rw [q2,HR.out];exact HT.out) (by omega);rw [q2]at this;exact this)
    have HB:=ah HP.out.bel;clear hlt0;go_wp2_with(go_at_call 112;refine HC.out.mono ?_;rintro e w1 ⟨v,rfl,hv,hd⟩;have HV:=ah (ak hv hd);clear hv hd)
    go_ret;exact⟨_,rfl,iK HV.out.1 HB.out.size,HB.out.trans (HV.out.2.mono HB.out.size)⟩
theorem acS(l:List GV)(A:Option Addr)(c:Nat)(w:World)(hl:l.length<=1000)(h1:bI 79 aT w w.heap.size A l)(hone:∀y∈l,GV1 y)(htot:(l.flatMap (fun y:GV=>nZ y.g)).length<=70368744177664)
  (hL:∀j (h:j<l.length) Y,Below w.heap.size w Y->Calls Tryz.prog 116 #[.agg (vec 79 (aT l[j]))] Y (Bytes Y ((fun y:GV=>nZ y.g) l[j]))):
  Calls Tryz.prog 115 #[.slice A l.length c,.func (.func 116) #[] #[]] w (Bytes w (l.flatMap (fun y:GV=>nZ y.g))):=by
 have H1:=ah h1;have HL:=ah hL;have HT:=ah htot;have RY:=ah hone;clear hone;obtain⟨N,hN⟩:=aqx (l.length);have HN:=ah hN;rw [<-hN]at hl⊢;obtain⟨R,hR⟩:=aqx (l.flatMap (fun y:GV=>nZ y.g));have HR:=ah hR;rw [<-hR];unfold Bytes;clear h1 hL htot hN hR;go_enter Tryz.func115,Tryz.ntmps115;go_wp2
 go_loopw [5,7,10] (fun vo _ vi W=>∃ (k d:Nat) (B:Option Addr),k<=N/\ vi= .int .i64 k/\ vo= .slice B k d/\ Hid (zI (fun y:GV=>nZ y.g) l w W k (.slice B k d))) (fun _ _ i _=>N-(intOf i).toNat)
 case atStart=>exact⟨0,0,none,aB _,rfl,rfl,ah ⟨⟨[],rfl,rfl,nO.nil _ _⟩,aC _ _⟩⟩
 case round=>
  obtain⟨k,d,B,hk,rfl,rfl,HP⟩:=hrel;obtain⟨W,hW⟩:=aqx wr;subst hW;by_cases hlt0:k<N
  · have hlt:k<l.length:=by have:=HN.out;omega
    have hB:=HP.out.bel;have g1:=H1.out.up hB;obtain⟨a,p,rfl,hp,-,hcp⟩:=g1.at hlt;obtain⟨x,hx⟩:=aqx (l[k]);rw [<-hx]at hcp;obtain⟨X,hX⟩:=aqx ((W.alloc (.cells (vec 79 (aT vw)) 63)).setRow W.heap.size (vec 79 (aT x)));have b1:Below W.heap.size W X:=(by rw [hX];exact bg ((aC _ _).alloc (aj _) _) (aj _) _);have a1:aU X W.heap.size 63 79 (aT x):=(by rw [hX];exact(aU.new W _ _ _).row _);have MX:=ah (HL.out k hlt X (hB.trans (b1.mono hB.size)));rw [<-hx]at MX;have HST:Hid (∀ (W1:World) (u:Value),Below X.heap.size X W1->W1.ownsRow X.heap.size 5 1 u (nZ x.g).length (jF (nZ x.g))->∃pp:Part,u=cZ pp/\ ∃B2 d2 w2,(uZ #[196,196] 196 #[.slice B k d,.slice (some ⟨W1.heap.size,0,none⟩) 1 1]).run Tryz.prog (W1.alloc (.cells (vec 1 (PV pp)) 78))= .ok (.slice B2 (k+1) d2) w2/\ zI (fun y:GV=>nZ y.g) l w w2 (k+1) (.slice B2 (k+1) d2)):=ah (fun W1 u hd hv=>by
     have:=HP.out.step hlt (by omega) (b1.trans (hd.mono b1.size)) (u:=u) (by rw [<-hx];exact(bf hv).low b1.size);exact this)
    have hki:(k:Int)< (N:Int):=(by omega);have gI:=ah hcp;have HX:=ah hX;have HA:=ah a1;have Ig:Hid (GV1 x):=ah (by rw [hx];exact RY.out _ (ay _));have FH:=ah hlt0;clear g1 hcp hx hlt hX b1 a1 hB hlt0;go_upto_region 5 with(first
     |((with_reducible refine aqy (.load _ _) ?_);refine bC rfl 63 _ rfl p rfl _ (aW gI.out Tryz.underlying63 rfl dU) ?_)
     |((with_reducible refine aqy (.store _ _ _) ?_);refine bD rfl 63 _ _ rfl _ rfl _ rfl (aS (aU.new W _ _ _) (aT x) dU (fC _ Ig.out _)) ?_))
    rw [<-HX.out];clear HX gI;go_wp2_with(first
     |((with_reducible refine aqy (.load _ _) ?_);refine bM rfl 63 _ rfl _ rfl _ (aQ HA.out Tryz.underlying63 rfl dU) ?_)
     |((with_reducible refine aqy (.buildSlice _ _ _) ?_);refine uP rfl _ rfl _ rfl (qJ pp w1) ?_)
     |(go_at_call 116;refine MX.out.mono ?_;rintro e w1 ⟨v,rfl,hv,hd⟩;obtain⟨pp,rfl,B2,d2,w2,hrun,hn⟩:=HST.out w1 v hd hv;have H79:=ah hn;clear hv hd hn))
    go_roundw
    case rel=>exact⟨k+1,d2,B2,FH.out,by go_num,rfl,H79⟩
    case measure=>have:=FH.out;simp [intOf];omega
  · obtain rfl:k=N:=by omega
    have HC:Hid (Calls Tryz.prog 112 #[.slice B k d] W (Bytes W R)):=ah (by
     obtain⟨ps,q1,q2,q3⟩:=HP.out.ex;rw [HN.out,List.take_length, <-HR.out]at q2;have:=q3.cat (by rw [q2,HR.out];exact HT.out) (by omega);rw [q2]at this;exact this)
    have HB:=ah HP.out.bel;clear hlt0;go_wp2_with(go_at_call 112;refine HC.out.mono ?_;rintro e w1 ⟨v,rfl,hv,hd⟩;have HV:=ah (ak hv hd);clear hv hd)
    go_ret;exact⟨_,rfl,iK HV.out.1 HB.out.size,HB.out.trans (HV.out.2.mono HB.out.size)⟩
end Go.Proofs.YtkaipknkjocfiaaGreat
