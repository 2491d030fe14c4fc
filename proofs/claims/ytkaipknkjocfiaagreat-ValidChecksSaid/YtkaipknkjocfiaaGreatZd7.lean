import Derived.Shelf.GgClosure.Gives
import Derived.Test.YtkaipknkjocfiaaGreatZd6
set_option maxRecDepth 100000
set_option maxHeartbeats 64000000
namespace Go.Proofs.YtkaipknkjocfiaaGreat
open Go.RowKit Go.Maps
def dw(n0:Nat)(W W':World):Prop:=W.heap.size<=W'.heap.size/\ ∀g,n0<=g->g<W.heap.size->W'.heap[g]?=W.heap[g]?
theorem dw.refl(n0:Nat)(W:World):dw n0 W W:=⟨aj _,fun _ _ _=>rfl⟩
theorem dw.trans{n0:Nat}{a b c:World}(h:dw n0 a b)(k:dw n0 b c):dw n0 a c:=⟨aA h.1 k.1,fun g h1 h2=>(k.2 g h1 (aN h2 h.1)).trans (h.2 g h1 h2)⟩
theorem dw.of_below{n0:Nat}{W W':World}(h:Below W.heap.size W W'):dw n0 W W':=⟨h.size,fun g _ hg=>h.5 g hg⟩
theorem dw.mono{n0 n1:Nat}{W W':World}(h:dw n0 W W')(hn:n0<=n1):dw n1 W W':=⟨h.1,fun g h1 h2=>h.2 g (aA hn h1) h2⟩
theorem dw.yt{n0 m:Nat}{W W':World}(h:Save m W W')(hm:m<n0):dw n0 W W':=⟨h.size,fun g h1 h2=>h.block g h2 (by omega)⟩
structure Asks{α:Type}(l:List α)(val:α->Value)(f:FuncId)(fs lb:Array Value)(stop:Bool)(n0:Nat)(Rw:World->Prop)(I J:Nat->World->Prop):Prop where
 row:∀i W,I i W->Rw W
 keep:∀i W W',I i W->Below W.heap.size W W'->I i W'
 uj:∀i W W',J i W->Below W.heap.size W W'->J i W'
 enters:∀args w,(callFunc f args).run Tryz.prog w= .ok (.enter f args) w
 call:∀i (hi:i<l.length) W,I i W->Calls Tryz.prog f (fs++ #[val l[i]]++lb) W fun e W'=>∃r,e= .returned (.bool r)/\ dw n0 W W'/\ (r=stop->J i W')/\ (r= !stop->I (i+1) W')
def VR(n0 n:Nat)(I J:Nat->World->Prop)(w:World)(e:Ending)(w':World):Prop:=∃ (v:Int) (r:Bool),e= .returned (.int .i64 v)/\ decide (0<=v)=r/\ dw n0 w w'/\ (r=true->∃i,i<n/\ J i w')/\ (r=false->I n w')
theorem Below.aY(W:World)(o:Obj):Below W.heap.size W (W.alloc o):=(aC _ _).alloc (aj _) _
theorem vP(W:World)(o:Obj):(W.alloc o).heap[W.heap.size]?=some o:=heap_alloc_new W o
theorem lt_of_heap{W:World}{g:Nat}{o:Obj}(h:W.heap[g]?=some o):g<W.heap.size:=(Array.getElem?_eq_some_iff.1 h).1
theorem lt_of_cell{W:World}{p:Addr}{v:Value}(h:W.cell? p=some v):p.block<W.heap.size:=by
 rcases Nat.lt_or_ge p.block W.heap.size with h1|h1
 · exact h1
 · have:W.heap[p.block]?=none:=Array.getElem?_eq_none h1
   unfold World.cell? at h;rw [this]at h;cases h
theorem aeD(A:Option Addr)(B c:Nat)(l:List Wi)(hl:l.length<=1000000)(f:FuncId)(fs lb:Array Value)(n0:Nat)(I J:Nat->World->Prop)
  (H:Asks l (fun y=>Value.agg (vec 4 (bG y))) f fs lb true n0 (fun W=>bI 4 bG W B A l) I J) (w:World) (hI:I 0 w):
  Calls Tryz.prog 119 #[.slice A l.length c,.func (.func f) fs lb] w (VR n0 l.length I J w):=by
 have eg:=H.enters;have HH:=ah H;have HI:=ah (ak hI (dw.refl n0 w));obtain⟨n,hn⟩:=aqx (l.length);have HN:=ah hn;rw [<-hn]at hl⊢;clear H hI hn;go_enter Tryz.func119,Tryz.ntmps119;go_wp2
 go_loopw [8] (fun v W=>∃k:Nat,k<=n/\ v= .int .i64 k/\ Hid (I k W/\ dw n0 w W)) (fun v _=>n-(intOf v).toNat)
 case atStart=>exact⟨0,aB _,rfl,HI⟩
 case round=>
  clear HI;obtain⟨k,hk,rfl,HR⟩:=hrel;by_cases hlt:k<n
  · have hki:(k:Int)< (n:Int):=by omega
    have hkl:k<l.length:=(by have:=HN.out;omega);obtain⟨a0,p,rfl,hq,-,hcp⟩:=(HH.out.row k wr HR.out.1).at hkl;have gI:=ah hcp;clear hcp;have rE:=ah (HH.out.call k hkl wr HR.out.1);obtain⟨VV,KJ⟩:∃v:Value,v=Value.agg (vec 4 (bG l[k])):=⟨_,rfl⟩;rw [<-KJ]at rE;have HV:=ah KJ;clear KJ;go_wp2_with(first
      |((with_reducible refine aqy (.load _ _) ?_);refine bC rfl 67 _ rfl p rfl _ (aW gI.out Tryz.underlying67 rfl gQ) ?_;rw [<-HV.out])
      |(go_at_fn f;refine rE.out.mono ?_;rintro e w1 ⟨r,rfl,hk1,h1,h2⟩;have HP:=ah (ak hk1 (ak h1 h2));clear hk1 h1 h2;cases r))
    · have HP2:=ah (ak (HP.out.2.2 (by first|rfl|trivial)) (HR.out.2.trans HP.out.1))
      clear HP;go_wp2_with fail
      go_roundw
      case rel=>exact⟨k+1,by omega,by go_num,HP2⟩
      case measure=>simp [intOf];omega
    · have HP2:=ah (ak (HP.out.2.1 (by first|rfl|trivial)) (HR.out.2.trans HP.out.1))
      clear HP;go_wp2_with fail
      go_ret;exact⟨_,true,rfl,decide_eq_true (by omega),HP2.out.2,fun _=>⟨k,hlt,HP2.out.1⟩,fun h=>by cases h⟩
  · obtain rfl:k=n:=by omega
    go_wp2_with fail
    go_ret;exact⟨_,false,rfl,by decide,HR.out.2,(fun h=>by cases h),fun _=>HR.out.1⟩
theorem TI(A:Option Addr)(B c:Nat)(l:List Wi)(hl:l.length<=1000000)(f:FuncId)(fs lb:Array Value)(n0:Nat)(I J:Nat->World->Prop)
  (H:Asks l (fun y=>Value.agg (vec 4 (bG y))) f fs lb true n0 (fun W=>bI 4 bG W B A l) I J) (w:World) (hI:I 0 w):
  Calls Tryz.prog 76 #[.slice A l.length c,.func (.func f) fs lb] w fun e w'=>∃r,e= .returned (.bool r)/\ dw n0 w w'/\ (r=true->∃i,i<l.length/\ J i w')/\ (r=false->I l.length w'):=by
 have HC:=ah (aeD A B c l hl f fs lb n0 I J H w hI);obtain⟨n,hn⟩:=aqx (l.length);rw [<-hn]at HC⊢;clear H hI hl hn;go_enter Tryz.func76,Tryz.ntmps76;go_wp2_with(go_at_call 119;refine HC.out.mono ?_;rintro e w1 ⟨v,r,rfl,hv,hh⟩;have HP:=ah hh;clear hh)
 go_ret;exact⟨r,rfl,HP.out⟩
theorem aeE(y:Wi)(g:Nat)(f:FuncId)(fs lb:Array Value)(ef:∀args w,(callFunc f args).run Tryz.prog w= .ok (.enter f args) w)(Q:Ending->World->Prop)(W:World)
  (hg:W.cell? ⟨g,0,none⟩=some (.func (.func f) fs lb)) (hc:Calls Tryz.prog f (fs++ #[Value.agg (vec 4 (bG y))]++lb) (W.alloc (.cells (vec 4 (bG y)) 67)) Q) (hq:∀e w',Q e w'->∃r,e= .returned (.bool r)):
  Calls Tryz.prog 77 #[Value.agg (vec 4 (bG y)),.pointer (some ⟨g,0,none⟩)] W fun e w'=>∃r,e= .returned (.bool (!r))/\ Q (.returned (.bool r)) w':=by
 have eg:=ef;have hgl:g<W.heap.size:=lt_of_cell hg;have hgc:(W.alloc (.cells (vec 4 (bG y)) 67)).cell? ⟨g,0,none⟩=some (.func (.func f) fs lb):=(World.cell?_alloc_lt W _ ⟨g,0,none⟩ hgl).trans hg;have Wh:Hid (aU (W.alloc (.cells (vec 4 (bG y)) 67)) W.heap.size 67 4 (bG y)):=ah (aU.new W _ _ _);have HC:=ah hc;have HQ:=ah hq;clear hc hq hgl hg;go_enter Tryz.func77,Tryz.ntmps77;go_wp2_with(first
  |((with_reducible refine aqy (.load 67 _) ?_);refine bM rfl 67 _ rfl _ rfl _ (aQ Wh.out Tryz.underlying67 rfl gQ) ?_)
  |(go_at_fn f;refine HC.out.mono ?_;intro e w1 hh;obtain⟨r,rfl⟩:=HQ.out _ _ hh;have HP:=ah hh;clear hh))
 go_ret;exact⟨r,rfl,HP.out⟩
theorem aaU(A:Option Addr)(B c:Nat)(l:List Wi)(hl:l.length<=1000000)(f:FuncId)(fs lb:Array Value)(n0:Nat)(I J:Nat->World->Prop)
  (H:Asks l (fun y=>Value.agg (vec 4 (bG y))) f fs lb false n0 (fun W=>bI 4 bG W B A l) I J) (w:World) (hn0:n0<=w.heap.size) (hI:I 0 w):
  Calls Tryz.prog 41 #[.slice A l.length c,.func (.func f) fs lb] w fun e w'=>∃r,e= .returned (.bool r)/\ dw n0 w w'/\ (r=true->I l.length w')/\ (r=false->∃i,i<l.length/\ J i w'):=by
 have eN:∀args w,(callFunc 77 args).run Tryz.prog w= .ok (.enter 77 args) w:=enters_of Tryz.func77 (by kernel_rfl) rfl;obtain⟨g,hg⟩:=aqx (w.heap.size);obtain⟨W1,hW1⟩:=aqx (w.alloc (.cells #[.func (.func f) fs lb] 106));have hb1:Below w.heap.size w W1:=(by rw [hW1];exact Below.aY w _);have hh1:W1.heap[g]?=some (.cells #[.func (.func f) fs lb] 106 (0,0)):=(by rw [hW1,hg];exact vP w _);have HA:Asks l (fun y=>Value.agg (vec 4 (bG y))) 77 #[] #[.pointer (some ⟨g,0,none⟩)] true n0 (fun W=>bI 4 bG W B A l) (fun i W=>I i W/\ W.heap[g]?=some (.cells #[.func (.func f) fs lb] 106 (0,0))) J:= {
  row:=fun i W h=>H.row i W h.1
  keep:=fun i W W' h hb=>⟨H.keep i W W' h.1 hb,(hb.block g (lt_of_heap h.2)).trans h.2⟩
  uj:=H.uj
  enters:=eN
  call:=fun i hi W h=>by
   have hcell:W.cell? ⟨g,0,none⟩=some (.func (.func f) fs lb):=cell_of_row W g 0 _ _ _ h.2;have hbB:Below W.heap.size W (W.alloc (.cells (vec 4 (bG l[i])) 67)):=Below.aY W _;refine Calls.mono (aeE l[i] g f fs lb H.enters _ W hcell (H.call i hi _ (H.keep i W _ h.1 hbB)) (fun e w' hh=>by obtain⟨r,e,_⟩:=hh;exact⟨r,e⟩)) ?_;rintro e w' ⟨r,rfl,r',er,hk,hJ,hI⟩;injection er with er
   injection er with er
   subst er;refine⟨!r,rfl,(dw.of_below hbB).trans hk,fun hr=>hJ (by simpa using hr),fun hr=>⟨hI (by simpa using hr), ?_⟩⟩;exact(hk.2 g (by omega) (aN (lt_of_heap h.2) hbB.size)).trans ((hbB.block g (lt_of_heap h.2)).trans h.2) }
 have HC:=ah (TI A B c l hl 77 #[] #[.pointer (some ⟨g,0,none⟩)] n0 _ J HA W1 ⟨H.keep 0 w W1 hI hb1,hh1⟩);have HB:=ah hb1;have HW1:=ah hW1;have HG:=ah hg;obtain⟨n,hn⟩:=aqx (l.length);rw [<-hn]at HC⊢;have hmf:∀ (fn:Fn) (first cap:Array Value) (w:World),(Instr.makeFunc fn first cap).run Tryz.prog w= .ok (.func fn first cap) w:=(fun _ _ _ _=>rfl);clear H hI hl hn HA hb1 hh1 hW1 hg eN;go_enter Tryz.func41,Tryz.ntmps41;go_upto_region 1 with fail
 rw [<-HW1.out, <-HG.out];clear HW1 HG;go_wp2_with(go_at_call 76;refine HC.out.mono ?_;rintro e w1 ⟨r,rfl,hk,h1,h2⟩;have HP:=ah (ak hk (ak h1 h2));clear hk h1 h2)
 go_ret;exact⟨!r,rfl,(dw.of_below HB.out).trans HP.out.1,fun h=>(HP.out.2.2 (by simpa using h)).1,fun h=>HP.out.2.1 (by simpa using h)⟩
theorem aeF(A:Option Addr)(B c:Nat)(l:List De)(hl:l.length<=1000000)(f:FuncId)(fs lb:Array Value)(n0:Nat)(I J:Nat->World->Prop)
  (H:Asks l (fun y=>Value.agg (vec 3 (iC y))) f fs lb true n0 (fun W=>bI 3 iC W B A l) I J) (w:World) (hI:I 0 w):
  Calls Tryz.prog 122 #[.slice A l.length c,.func (.func f) fs lb] w (VR n0 l.length I J w):=by
 have eg:=H.enters;have HH:=ah H;have HI:=ah (ak hI (dw.refl n0 w));obtain⟨n,hn⟩:=aqx (l.length);have HN:=ah hn;rw [<-hn]at hl⊢;clear H hI hn;go_enter Tryz.func122,Tryz.ntmps122;go_wp2
 go_loopw [8] (fun v W=>∃k:Nat,k<=n/\ v= .int .i64 k/\ Hid (I k W/\ dw n0 w W)) (fun v _=>n-(intOf v).toNat)
 case atStart=>exact⟨0,aB _,rfl,HI⟩
 case round=>
  clear HI;obtain⟨k,hk,rfl,HR⟩:=hrel;by_cases hlt:k<n
  · have hki:(k:Int)< (n:Int):=by omega
    have hkl:k<l.length:=(by have:=HN.out;omega);obtain⟨a0,p,rfl,hq,-,hcp⟩:=(HH.out.row k wr HR.out.1).at hkl;have gI:=ah hcp;clear hcp;have rE:=ah (HH.out.call k hkl wr HR.out.1);obtain⟨VV,KJ⟩:∃v:Value,v=Value.agg (vec 3 (iC l[k])):=⟨_,rfl⟩;rw [<-KJ]at rE;have HV:=ah KJ;clear KJ;go_wp2_with(first
      |((with_reducible refine aqy (.load _ _) ?_);refine bC rfl 83 _ rfl p rfl _ (aW gI.out Tryz.underlying83 rfl qG) ?_;rw [<-HV.out])
      |(go_at_fn f;refine rE.out.mono ?_;rintro e w1 ⟨r,rfl,hk1,h1,h2⟩;have HP:=ah (ak hk1 (ak h1 h2));clear hk1 h1 h2;cases r))
    · have HP2:=ah (ak (HP.out.2.2 (by first|rfl|trivial)) (HR.out.2.trans HP.out.1))
      clear HP;go_wp2_with fail
      go_roundw
      case rel=>exact⟨k+1,by omega,by go_num,HP2⟩
      case measure=>simp [intOf];omega
    · have HP2:=ah (ak (HP.out.2.1 (by first|rfl|trivial)) (HR.out.2.trans HP.out.1))
      clear HP;go_wp2_with fail
      go_ret;exact⟨_,true,rfl,decide_eq_true (by omega),HP2.out.2,fun _=>⟨k,hlt,HP2.out.1⟩,fun h=>by cases h⟩
  · obtain rfl:k=n:=by omega
    go_wp2_with fail
    go_ret;exact⟨_,false,rfl,by decide,HR.out.2,(fun h=>by cases h),fun _=>HR.out.1⟩
theorem abB(A:Option Addr)(B c:Nat)(l:List De)(hl:l.length<=1000000)(f:FuncId)(fs lb:Array Value)(n0:Nat)(I J:Nat->World->Prop)
  (H:Asks l (fun y=>Value.agg (vec 3 (iC y))) f fs lb true n0 (fun W=>bI 3 iC W B A l) I J) (w:World) (hI:I 0 w):
  Calls Tryz.prog 81 #[.slice A l.length c,.func (.func f) fs lb] w fun e w'=>∃r,e= .returned (.bool r)/\ dw n0 w w'/\ (r=true->∃i,i<l.length/\ J i w')/\ (r=false->I l.length w'):=by
 have HC:=ah (aeF A B c l hl f fs lb n0 I J H w hI);obtain⟨n,hn⟩:=aqx (l.length);rw [<-hn]at HC⊢;clear H hI hl hn;go_enter Tryz.func81,Tryz.ntmps81;go_wp2_with(go_at_call 122;refine HC.out.mono ?_;rintro e w1 ⟨v,r,rfl,hv,hh⟩;have HP:=ah hh;clear hh)
 go_ret;exact⟨r,rfl,HP.out⟩
theorem aeG(y:De)(g:Nat)(f:FuncId)(fs lb:Array Value)(ef:∀args w,(callFunc f args).run Tryz.prog w= .ok (.enter f args) w)(Q:Ending->World->Prop)(W:World)
  (hg:W.cell? ⟨g,0,none⟩=some (.func (.func f) fs lb)) (hc:Calls Tryz.prog f (fs++ #[Value.agg (vec 3 (iC y))]++lb) (W.alloc (.cells (vec 3 (iC y)) 83)) Q) (hq:∀e w',Q e w'->∃r,e= .returned (.bool r)):
  Calls Tryz.prog 82 #[Value.agg (vec 3 (iC y)),.pointer (some ⟨g,0,none⟩)] W fun e w'=>∃r,e= .returned (.bool (!r))/\ Q (.returned (.bool r)) w':=by
 have eg:=ef;have hgl:g<W.heap.size:=lt_of_cell hg;have hgc:(W.alloc (.cells (vec 3 (iC y)) 83)).cell? ⟨g,0,none⟩=some (.func (.func f) fs lb):=(World.cell?_alloc_lt W _ ⟨g,0,none⟩ hgl).trans hg;have Wh:Hid (aU (W.alloc (.cells (vec 3 (iC y)) 83)) W.heap.size 83 3 (iC y)):=ah (aU.new W _ _ _);have HC:=ah hc;have HQ:=ah hq;clear hc hq hgl hg;go_enter Tryz.func82,Tryz.ntmps82;go_wp2_with(first
  |((with_reducible refine aqy (.load 83 _) ?_);refine bM rfl 83 _ rfl _ rfl _ (aQ Wh.out Tryz.underlying83 rfl qG) ?_)
  |(go_at_fn f;refine HC.out.mono ?_;intro e w1 hh;obtain⟨r,rfl⟩:=HQ.out _ _ hh;have HP:=ah hh;clear hh))
 go_ret;exact⟨r,rfl,HP.out⟩
theorem aaV(A:Option Addr)(B c:Nat)(l:List De)(hl:l.length<=1000000)(f:FuncId)(fs lb:Array Value)(n0:Nat)(I J:Nat->World->Prop)
  (H:Asks l (fun y=>Value.agg (vec 3 (iC y))) f fs lb false n0 (fun W=>bI 3 iC W B A l) I J) (w:World) (hn0:n0<=w.heap.size) (hI:I 0 w):
  Calls Tryz.prog 43 #[.slice A l.length c,.func (.func f) fs lb] w fun e w'=>∃r,e= .returned (.bool r)/\ dw n0 w w'/\ (r=true->I l.length w')/\ (r=false->∃i,i<l.length/\ J i w'):=by
 have eN:∀args w,(callFunc 82 args).run Tryz.prog w= .ok (.enter 82 args) w:=enters_of Tryz.func82 (by kernel_rfl) rfl;obtain⟨g,hg⟩:=aqx (w.heap.size);obtain⟨W1,hW1⟩:=aqx (w.alloc (.cells #[.func (.func f) fs lb] 108));have hb1:Below w.heap.size w W1:=(by rw [hW1];exact Below.aY w _);have hh1:W1.heap[g]?=some (.cells #[.func (.func f) fs lb] 108 (0,0)):=(by rw [hW1,hg];exact vP w _);have HA:Asks l (fun y=>Value.agg (vec 3 (iC y))) 82 #[] #[.pointer (some ⟨g,0,none⟩)] true n0 (fun W=>bI 3 iC W B A l) (fun i W=>I i W/\ W.heap[g]?=some (.cells #[.func (.func f) fs lb] 108 (0,0))) J:= {
  row:=fun i W h=>H.row i W h.1
  keep:=fun i W W' h hb=>⟨H.keep i W W' h.1 hb,(hb.block g (lt_of_heap h.2)).trans h.2⟩
  uj:=H.uj
  enters:=eN
  call:=fun i hi W h=>by
   have hcell:W.cell? ⟨g,0,none⟩=some (.func (.func f) fs lb):=cell_of_row W g 0 _ _ _ h.2;have hbB:Below W.heap.size W (W.alloc (.cells (vec 3 (iC l[i])) 83)):=Below.aY W _;refine Calls.mono (aeG l[i] g f fs lb H.enters _ W hcell (H.call i hi _ (H.keep i W _ h.1 hbB)) (fun e w' hh=>by obtain⟨r,e,_⟩:=hh;exact⟨r,e⟩)) ?_;rintro e w' ⟨r,rfl,r',er,hk,hJ,hI⟩;injection er with er
   injection er with er
   subst er;refine⟨!r,rfl,(dw.of_below hbB).trans hk,fun hr=>hJ (by simpa using hr),fun hr=>⟨hI (by simpa using hr), ?_⟩⟩;exact(hk.2 g (by omega) (aN (lt_of_heap h.2) hbB.size)).trans ((hbB.block g (lt_of_heap h.2)).trans h.2) }
 have HC:=ah (abB A B c l hl 82 #[] #[.pointer (some ⟨g,0,none⟩)] n0 _ J HA W1 ⟨H.keep 0 w W1 hI hb1,hh1⟩);have HB:=ah hb1;have HW1:=ah hW1;have HG:=ah hg;obtain⟨n,hn⟩:=aqx (l.length);rw [<-hn]at HC⊢;have hmf:∀ (fn:Fn) (first cap:Array Value) (w:World),(Instr.makeFunc fn first cap).run Tryz.prog w= .ok (.func fn first cap) w:=(fun _ _ _ _=>rfl);clear H hI hl hn HA hb1 hh1 hW1 hg eN;go_enter Tryz.func43,Tryz.ntmps43;go_upto_region 1 with fail
 rw [<-HW1.out, <-HG.out];clear HW1 HG;go_wp2_with(go_at_call 81;refine HC.out.mono ?_;rintro e w1 ⟨r,rfl,hk,h1,h2⟩;have HP:=ah (ak hk (ak h1 h2));clear hk h1 h2)
 go_ret;exact⟨!r,rfl,(dw.of_below HB.out).trans HP.out.1,fun h=>(HP.out.2.2 (by simpa using h)).1,fun h=>HP.out.2.1 (by simpa using h)⟩
theorem aeH(A:Option Addr)(B c:Nat)(l:List Ir)(hl:l.length<=1000000)(f:FuncId)(fs lb:Array Value)(n0:Nat)(I J:Nat->World->Prop)
  (H:Asks l (fun y=>Value.agg (vec 3 (dV y))) f fs lb true n0 (fun W=>bI 3 dV W B A l) I J) (w:World) (hI:I 0 w):
  Calls Tryz.prog 123 #[.slice A l.length c,.func (.func f) fs lb] w (VR n0 l.length I J w):=by
 have eg:=H.enters;have HH:=ah H;have HI:=ah (ak hI (dw.refl n0 w));obtain⟨n,hn⟩:=aqx (l.length);have HN:=ah hn;rw [<-hn]at hl⊢;clear H hI hn;go_enter Tryz.func123,Tryz.ntmps123;go_wp2
 go_loopw [8] (fun v W=>∃k:Nat,k<=n/\ v= .int .i64 k/\ Hid (I k W/\ dw n0 w W)) (fun v _=>n-(intOf v).toNat)
 case atStart=>exact⟨0,aB _,rfl,HI⟩
 case round=>
  clear HI;obtain⟨k,hk,rfl,HR⟩:=hrel;by_cases hlt:k<n
  · have hki:(k:Int)< (n:Int):=by omega
    have hkl:k<l.length:=(by have:=HN.out;omega);obtain⟨a0,p,rfl,hq,-,hcp⟩:=(HH.out.row k wr HR.out.1).at hkl;have gI:=ah hcp;clear hcp;have rE:=ah (HH.out.call k hkl wr HR.out.1);obtain⟨VV,KJ⟩:∃v:Value,v=Value.agg (vec 3 (dV l[k])):=⟨_,rfl⟩;rw [<-KJ]at rE;have HV:=ah KJ;clear KJ;go_wp2_with(first
      |((with_reducible refine aqy (.load _ _) ?_);refine bC rfl 65 _ rfl p rfl _ (aW gI.out Tryz.underlying65 rfl rJ) ?_;rw [<-HV.out])
      |(go_at_fn f;refine rE.out.mono ?_;rintro e w1 ⟨r,rfl,hk1,h1,h2⟩;have HP:=ah (ak hk1 (ak h1 h2));clear hk1 h1 h2;cases r))
    · have HP2:=ah (ak (HP.out.2.2 (by first|rfl|trivial)) (HR.out.2.trans HP.out.1))
      clear HP;go_wp2_with fail
      go_roundw
      case rel=>exact⟨k+1,by omega,by go_num,HP2⟩
      case measure=>simp [intOf];omega
    · have HP2:=ah (ak (HP.out.2.1 (by first|rfl|trivial)) (HR.out.2.trans HP.out.1))
      clear HP;go_wp2_with fail
      go_ret;exact⟨_,true,rfl,decide_eq_true (by omega),HP2.out.2,fun _=>⟨k,hlt,HP2.out.1⟩,fun h=>by cases h⟩
  · obtain rfl:k=n:=by omega
    go_wp2_with fail
    go_ret;exact⟨_,false,rfl,by decide,HR.out.2,(fun h=>by cases h),fun _=>HR.out.1⟩
theorem abC(A:Option Addr)(B c:Nat)(l:List Ir)(hl:l.length<=1000000)(f:FuncId)(fs lb:Array Value)(n0:Nat)(I J:Nat->World->Prop)
  (H:Asks l (fun y=>Value.agg (vec 3 (dV y))) f fs lb true n0 (fun W=>bI 3 dV W B A l) I J) (w:World) (hI:I 0 w):
  Calls Tryz.prog 87 #[.slice A l.length c,.func (.func f) fs lb] w fun e w'=>∃r,e= .returned (.bool r)/\ dw n0 w w'/\ (r=true->∃i,i<l.length/\ J i w')/\ (r=false->I l.length w'):=by
 have HC:=ah (aeH A B c l hl f fs lb n0 I J H w hI);obtain⟨n,hn⟩:=aqx (l.length);rw [<-hn]at HC⊢;clear H hI hl hn;go_enter Tryz.func87,Tryz.ntmps87;go_wp2_with(go_at_call 123;refine HC.out.mono ?_;rintro e w1 ⟨v,r,rfl,hv,hh⟩;have HP:=ah hh;clear hh)
 go_ret;exact⟨r,rfl,HP.out⟩
theorem aeI(y:Ir)(g:Nat)(f:FuncId)(fs lb:Array Value)(ef:∀args w,(callFunc f args).run Tryz.prog w= .ok (.enter f args) w)(Q:Ending->World->Prop)(W:World)
  (hg:W.cell? ⟨g,0,none⟩=some (.func (.func f) fs lb)) (hc:Calls Tryz.prog f (fs++ #[Value.agg (vec 3 (dV y))]++lb) (W.alloc (.cells (vec 3 (dV y)) 65)) Q) (hq:∀e w',Q e w'->∃r,e= .returned (.bool r)):
  Calls Tryz.prog 88 #[Value.agg (vec 3 (dV y)),.pointer (some ⟨g,0,none⟩)] W fun e w'=>∃r,e= .returned (.bool (!r))/\ Q (.returned (.bool r)) w':=by
 have eg:=ef;have hgl:g<W.heap.size:=lt_of_cell hg;have hgc:(W.alloc (.cells (vec 3 (dV y)) 65)).cell? ⟨g,0,none⟩=some (.func (.func f) fs lb):=(World.cell?_alloc_lt W _ ⟨g,0,none⟩ hgl).trans hg;have Wh:Hid (aU (W.alloc (.cells (vec 3 (dV y)) 65)) W.heap.size 65 3 (dV y)):=ah (aU.new W _ _ _);have HC:=ah hc;have HQ:=ah hq;clear hc hq hgl hg;go_enter Tryz.func88,Tryz.ntmps88;go_wp2_with(first
  |((with_reducible refine aqy (.load 65 _) ?_);refine bM rfl 65 _ rfl _ rfl _ (aQ Wh.out Tryz.underlying65 rfl rJ) ?_)
  |(go_at_fn f;refine HC.out.mono ?_;intro e w1 hh;obtain⟨r,rfl⟩:=HQ.out _ _ hh;have HP:=ah hh;clear hh))
 go_ret;exact⟨r,rfl,HP.out⟩
theorem aaW(A:Option Addr)(B c:Nat)(l:List Ir)(hl:l.length<=1000000)(f:FuncId)(fs lb:Array Value)(n0:Nat)(I J:Nat->World->Prop)
  (H:Asks l (fun y=>Value.agg (vec 3 (dV y))) f fs lb false n0 (fun W=>bI 3 dV W B A l) I J) (w:World) (hn0:n0<=w.heap.size) (hI:I 0 w):
  Calls Tryz.prog 47 #[.slice A l.length c,.func (.func f) fs lb] w fun e w'=>∃r,e= .returned (.bool r)/\ dw n0 w w'/\ (r=true->I l.length w')/\ (r=false->∃i,i<l.length/\ J i w'):=by
 have eN:∀args w,(callFunc 88 args).run Tryz.prog w= .ok (.enter 88 args) w:=enters_of Tryz.func88 (by kernel_rfl) rfl;obtain⟨g,hg⟩:=aqx (w.heap.size);obtain⟨W1,hW1⟩:=aqx (w.alloc (.cells #[.func (.func f) fs lb] 112));have hb1:Below w.heap.size w W1:=(by rw [hW1];exact Below.aY w _);have hh1:W1.heap[g]?=some (.cells #[.func (.func f) fs lb] 112 (0,0)):=(by rw [hW1,hg];exact vP w _);have HA:Asks l (fun y=>Value.agg (vec 3 (dV y))) 88 #[] #[.pointer (some ⟨g,0,none⟩)] true n0 (fun W=>bI 3 dV W B A l) (fun i W=>I i W/\ W.heap[g]?=some (.cells #[.func (.func f) fs lb] 112 (0,0))) J:= {
  row:=fun i W h=>H.row i W h.1
  keep:=fun i W W' h hb=>⟨H.keep i W W' h.1 hb,(hb.block g (lt_of_heap h.2)).trans h.2⟩
  uj:=H.uj
  enters:=eN
  call:=fun i hi W h=>by
   have hcell:W.cell? ⟨g,0,none⟩=some (.func (.func f) fs lb):=cell_of_row W g 0 _ _ _ h.2;have hbB:Below W.heap.size W (W.alloc (.cells (vec 3 (dV l[i])) 65)):=Below.aY W _;refine Calls.mono (aeI l[i] g f fs lb H.enters _ W hcell (H.call i hi _ (H.keep i W _ h.1 hbB)) (fun e w' hh=>by obtain⟨r,e,_⟩:=hh;exact⟨r,e⟩)) ?_;rintro e w' ⟨r,rfl,r',er,hk,hJ,hI⟩;injection er with er
   injection er with er
   subst er;refine⟨!r,rfl,(dw.of_below hbB).trans hk,fun hr=>hJ (by simpa using hr),fun hr=>⟨hI (by simpa using hr), ?_⟩⟩;exact(hk.2 g (by omega) (aN (lt_of_heap h.2) hbB.size)).trans ((hbB.block g (lt_of_heap h.2)).trans h.2) }
 have HC:=ah (abC A B c l hl 88 #[] #[.pointer (some ⟨g,0,none⟩)] n0 _ J HA W1 ⟨H.keep 0 w W1 hI hb1,hh1⟩);have HB:=ah hb1;have HW1:=ah hW1;have HG:=ah hg;obtain⟨n,hn⟩:=aqx (l.length);rw [<-hn]at HC⊢;have hmf:∀ (fn:Fn) (first cap:Array Value) (w:World),(Instr.makeFunc fn first cap).run Tryz.prog w= .ok (.func fn first cap) w:=(fun _ _ _ _=>rfl);clear H hI hl hn HA hb1 hh1 hW1 hg eN;go_enter Tryz.func47,Tryz.ntmps47;go_upto_region 1 with fail
 rw [<-HW1.out, <-HG.out];clear HW1 HG;go_wp2_with(go_at_call 87;refine HC.out.mono ?_;rintro e w1 ⟨r,rfl,hk,h1,h2⟩;have HP:=ah (ak hk (ak h1 h2));clear hk h1 h2)
 go_ret;exact⟨!r,rfl,(dw.of_below HB.out).trans HP.out.1,fun h=>(HP.out.2.2 (by simpa using h)).1,fun h=>HP.out.2.1 (by simpa using h)⟩
theorem aeJ(A:Option Addr)(B c:Nat)(l:List En)(hl:l.length<=1000000)(f:FuncId)(fs lb:Array Value)(n0:Nat)(I J:Nat->World->Prop)
  (H:Asks l (fun y=>Value.agg (vec 3 (dY y))) f fs lb true n0 (fun W=>bI 3 dY W B A l) I J) (w:World) (hI:I 0 w):
  Calls Tryz.prog 164 #[.slice A l.length c,.func (.func f) fs lb] w (VR n0 l.length I J w):=by
 have eg:=H.enters;have HH:=ah H;have HI:=ah (ak hI (dw.refl n0 w));obtain⟨n,hn⟩:=aqx (l.length);have HN:=ah hn;rw [<-hn]at hl⊢;clear H hI hn;go_enter Tryz.func164,Tryz.ntmps164;go_wp2
 go_loopw [8] (fun v W=>∃k:Nat,k<=n/\ v= .int .i64 k/\ Hid (I k W/\ dw n0 w W)) (fun v _=>n-(intOf v).toNat)
 case atStart=>exact⟨0,aB _,rfl,HI⟩
 case round=>
  clear HI;obtain⟨k,hk,rfl,HR⟩:=hrel;by_cases hlt:k<n
  · have hki:(k:Int)< (n:Int):=by omega
    have hkl:k<l.length:=(by have:=HN.out;omega);obtain⟨a0,p,rfl,hq,-,hcp⟩:=(HH.out.row k wr HR.out.1).at hkl;have gI:=ah hcp;clear hcp;have rE:=ah (HH.out.call k hkl wr HR.out.1);obtain⟨VV,KJ⟩:∃v:Value,v=Value.agg (vec 3 (dY l[k])):=⟨_,rfl⟩;rw [<-KJ]at rE;have HV:=ah KJ;clear KJ;go_wp2_with(first
      |((with_reducible refine aqy (.load _ _) ?_);refine bC rfl 44 _ rfl p rfl _ (aW gI.out Tryz.underlying44 rfl nX) ?_;rw [<-HV.out])
      |(go_at_fn f;refine rE.out.mono ?_;rintro e w1 ⟨r,rfl,hk1,h1,h2⟩;have HP:=ah (ak hk1 (ak h1 h2));clear hk1 h1 h2;cases r))
    · have HP2:=ah (ak (HP.out.2.2 (by first|rfl|trivial)) (HR.out.2.trans HP.out.1))
      clear HP;go_wp2_with fail
      go_roundw
      case rel=>exact⟨k+1,by omega,by go_num,HP2⟩
      case measure=>simp [intOf];omega
    · have HP2:=ah (ak (HP.out.2.1 (by first|rfl|trivial)) (HR.out.2.trans HP.out.1))
      clear HP;go_wp2_with fail
      go_ret;exact⟨_,true,rfl,decide_eq_true (by omega),HP2.out.2,fun _=>⟨k,hlt,HP2.out.1⟩,fun h=>by cases h⟩
  · obtain rfl:k=n:=by omega
    go_wp2_with fail
    go_ret;exact⟨_,false,rfl,by decide,HR.out.2,(fun h=>by cases h),fun _=>HR.out.1⟩
theorem abD(A:Option Addr)(B c:Nat)(l:List En)(hl:l.length<=1000000)(f:FuncId)(fs lb:Array Value)(n0:Nat)(I J:Nat->World->Prop)
  (H:Asks l (fun y=>Value.agg (vec 3 (dY y))) f fs lb true n0 (fun W=>bI 3 dY W B A l) I J) (w:World) (hI:I 0 w):
  Calls Tryz.prog 132 #[.slice A l.length c,.func (.func f) fs lb] w fun e w'=>∃r,e= .returned (.bool r)/\ dw n0 w w'/\ (r=true->∃i,i<l.length/\ J i w')/\ (r=false->I l.length w'):=by
 have HC:=ah (aeJ A B c l hl f fs lb n0 I J H w hI);obtain⟨n,hn⟩:=aqx (l.length);rw [<-hn]at HC⊢;clear H hI hl hn;go_enter Tryz.func132,Tryz.ntmps132;go_wp2_with(go_at_call 164;refine HC.out.mono ?_;rintro e w1 ⟨v,r,rfl,hv,hh⟩;have HP:=ah hh;clear hh)
 go_ret;exact⟨r,rfl,HP.out⟩
theorem aeK(y:En)(g:Nat)(f:FuncId)(fs lb:Array Value)(ef:∀args w,(callFunc f args).run Tryz.prog w= .ok (.enter f args) w)(Q:Ending->World->Prop)(W:World)
  (hg:W.cell? ⟨g,0,none⟩=some (.func (.func f) fs lb)) (hc:Calls Tryz.prog f (fs++ #[Value.agg (vec 3 (dY y))]++lb) (W.alloc (.cells (vec 3 (dY y)) 44)) Q) (hq:∀e w',Q e w'->∃r,e= .returned (.bool r)):
  Calls Tryz.prog 133 #[Value.agg (vec 3 (dY y)),.pointer (some ⟨g,0,none⟩)] W fun e w'=>∃r,e= .returned (.bool (!r))/\ Q (.returned (.bool r)) w':=by
 have eg:=ef;have hgl:g<W.heap.size:=lt_of_cell hg;have hgc:(W.alloc (.cells (vec 3 (dY y)) 44)).cell? ⟨g,0,none⟩=some (.func (.func f) fs lb):=(World.cell?_alloc_lt W _ ⟨g,0,none⟩ hgl).trans hg;have Wh:Hid (aU (W.alloc (.cells (vec 3 (dY y)) 44)) W.heap.size 44 3 (dY y)):=ah (aU.new W _ _ _);have HC:=ah hc;have HQ:=ah hq;clear hc hq hgl hg;go_enter Tryz.func133,Tryz.ntmps133;go_wp2_with(first
  |((with_reducible refine aqy (.load 44 _) ?_);refine bM rfl 44 _ rfl _ rfl _ (aQ Wh.out Tryz.underlying44 rfl nX) ?_)
  |(go_at_fn f;refine HC.out.mono ?_;intro e w1 hh;obtain⟨r,rfl⟩:=HQ.out _ _ hh;have HP:=ah hh;clear hh))
 go_ret;exact⟨r,rfl,HP.out⟩
theorem abE(A:Option Addr)(B c:Nat)(l:List En)(hl:l.length<=1000000)(f:FuncId)(fs lb:Array Value)(n0:Nat)(I J:Nat->World->Prop)
  (H:Asks l (fun y=>Value.agg (vec 3 (dY y))) f fs lb false n0 (fun W=>bI 3 dY W B A l) I J) (w:World) (hn0:n0<=w.heap.size) (hI:I 0 w):
  Calls Tryz.prog 96 #[.slice A l.length c,.func (.func f) fs lb] w fun e w'=>∃r,e= .returned (.bool r)/\ dw n0 w w'/\ (r=true->I l.length w')/\ (r=false->∃i,i<l.length/\ J i w'):=by
 have eN:∀args w,(callFunc 133 args).run Tryz.prog w= .ok (.enter 133 args) w:=enters_of Tryz.func133 (by kernel_rfl) rfl;obtain⟨g,hg⟩:=aqx (w.heap.size);obtain⟨W1,hW1⟩:=aqx (w.alloc (.cells #[.func (.func f) fs lb] 147));have hb1:Below w.heap.size w W1:=(by rw [hW1];exact Below.aY w _);have hh1:W1.heap[g]?=some (.cells #[.func (.func f) fs lb] 147 (0,0)):=(by rw [hW1,hg];exact vP w _);have HA:Asks l (fun y=>Value.agg (vec 3 (dY y))) 133 #[] #[.pointer (some ⟨g,0,none⟩)] true n0 (fun W=>bI 3 dY W B A l) (fun i W=>I i W/\ W.heap[g]?=some (.cells #[.func (.func f) fs lb] 147 (0,0))) J:= {
  row:=fun i W h=>H.row i W h.1
  keep:=fun i W W' h hb=>⟨H.keep i W W' h.1 hb,(hb.block g (lt_of_heap h.2)).trans h.2⟩
  uj:=H.uj
  enters:=eN
  call:=fun i hi W h=>by
   have hcell:W.cell? ⟨g,0,none⟩=some (.func (.func f) fs lb):=cell_of_row W g 0 _ _ _ h.2;have hbB:Below W.heap.size W (W.alloc (.cells (vec 3 (dY l[i])) 44)):=Below.aY W _;refine Calls.mono (aeK l[i] g f fs lb H.enters _ W hcell (H.call i hi _ (H.keep i W _ h.1 hbB)) (fun e w' hh=>by obtain⟨r,e,_⟩:=hh;exact⟨r,e⟩)) ?_;rintro e w' ⟨r,rfl,r',er,hk,hJ,hI⟩;injection er with er
   injection er with er
   subst er;refine⟨!r,rfl,(dw.of_below hbB).trans hk,fun hr=>hJ (by simpa using hr),fun hr=>⟨hI (by simpa using hr), ?_⟩⟩;exact(hk.2 g (by omega) (aN (lt_of_heap h.2) hbB.size)).trans ((hbB.block g (lt_of_heap h.2)).trans h.2) }
 have HC:=ah (abD A B c l hl 133 #[] #[.pointer (some ⟨g,0,none⟩)] n0 _ J HA W1 ⟨H.keep 0 w W1 hI hb1,hh1⟩);have HB:=ah hb1;have HW1:=ah hW1;have HG:=ah hg;obtain⟨n,hn⟩:=aqx (l.length);rw [<-hn]at HC⊢;have hmf:∀ (fn:Fn) (first cap:Array Value) (w:World),(Instr.makeFunc fn first cap).run Tryz.prog w= .ok (.func fn first cap) w:=(fun _ _ _ _=>rfl);clear H hI hl hn HA hb1 hh1 hW1 hg eN;go_enter Tryz.func96,Tryz.ntmps96;go_upto_region 1 with fail
 rw [<-HW1.out, <-HG.out];clear HW1 HG;go_wp2_with(go_at_call 132;refine HC.out.mono ?_;rintro e w1 ⟨r,rfl,hk,h1,h2⟩;have HP:=ah (ak hk (ak h1 h2));clear hk h1 h2)
 go_ret;exact⟨!r,rfl,(dw.of_below HB.out).trans HP.out.1,fun h=>(HP.out.2.2 (by simpa using h)).1,fun h=>HP.out.2.1 (by simpa using h)⟩
theorem aeL(A:Option Addr)(B c:Nat)(l:List Sp)(hl:l.length<=1000000)(f:FuncId)(fs lb:Array Value)(n0:Nat)(I J:Nat->World->Prop)
  (H:Asks l (fun y=>Value.agg (vec 2 (bQ y))) f fs lb true n0 (fun W=>bI 2 bQ W B A l) I J) (w:World) (hI:I 0 w):
  Calls Tryz.prog 128 #[.slice A l.length c,.func (.func f) fs lb] w (VR n0 l.length I J w):=by
 have eg:=H.enters;have HH:=ah H;have HI:=ah (ak hI (dw.refl n0 w));obtain⟨n,hn⟩:=aqx (l.length);have HN:=ah hn;rw [<-hn]at hl⊢;clear H hI hn;go_enter Tryz.func128,Tryz.ntmps128;go_wp2
 go_loopw [8] (fun v W=>∃k:Nat,k<=n/\ v= .int .i64 k/\ Hid (I k W/\ dw n0 w W)) (fun v _=>n-(intOf v).toNat)
 case atStart=>exact⟨0,aB _,rfl,HI⟩
 case round=>
  clear HI;obtain⟨k,hk,rfl,HR⟩:=hrel;by_cases hlt:k<n
  · have hki:(k:Int)< (n:Int):=by omega
    have hkl:k<l.length:=(by have:=HN.out;omega);obtain⟨a0,p,rfl,hq,-,hcp⟩:=(HH.out.row k wr HR.out.1).at hkl;have gI:=ah hcp;clear hcp;have rE:=ah (HH.out.call k hkl wr HR.out.1);obtain⟨VV,KJ⟩:∃v:Value,v=Value.agg (vec 2 (bQ l[k])):=⟨_,rfl⟩;rw [<-KJ]at rE;have HV:=ah KJ;clear KJ;go_wp2_with(first
      |((with_reducible refine aqy (.load _ _) ?_);refine bC rfl 24 _ rfl p rfl _ (aW gI.out Tryz.underlying24 rfl bZ) ?_;rw [<-HV.out])
      |(go_at_fn f;refine rE.out.mono ?_;rintro e w1 ⟨r,rfl,hk1,h1,h2⟩;have HP:=ah (ak hk1 (ak h1 h2));clear hk1 h1 h2;cases r))
    · have HP2:=ah (ak (HP.out.2.2 (by first|rfl|trivial)) (HR.out.2.trans HP.out.1))
      clear HP;go_wp2_with fail
      go_roundw
      case rel=>exact⟨k+1,by omega,by go_num,HP2⟩
      case measure=>simp [intOf];omega
    · have HP2:=ah (ak (HP.out.2.1 (by first|rfl|trivial)) (HR.out.2.trans HP.out.1))
      clear HP;go_wp2_with fail
      go_ret;exact⟨_,true,rfl,decide_eq_true (by omega),HP2.out.2,fun _=>⟨k,hlt,HP2.out.1⟩,fun h=>by cases h⟩
  · obtain rfl:k=n:=by omega
    go_wp2_with fail
    go_ret;exact⟨_,false,rfl,by decide,HR.out.2,(fun h=>by cases h),fun _=>HR.out.1⟩
theorem abG(A:Option Addr)(B c:Nat)(l:List Sp)(hl:l.length<=1000000)(f:FuncId)(fs lb:Array Value)(n0:Nat)(I J:Nat->World->Prop)
  (H:Asks l (fun y=>Value.agg (vec 2 (bQ y))) f fs lb true n0 (fun W=>bI 2 bQ W B A l) I J) (w:World) (hI:I 0 w):
  Calls Tryz.prog 160 #[.slice A l.length c,.func (.func f) fs lb] w fun e w'=>∃r,e= .returned (.bool r)/\ dw n0 w w'/\ (r=true->∃i,i<l.length/\ J i w')/\ (r=false->I l.length w'):=by
 have HC:=ah (aeL A B c l hl f fs lb n0 I J H w hI);obtain⟨n,hn⟩:=aqx (l.length);rw [<-hn]at HC⊢;clear H hI hl hn;go_enter Tryz.func160,Tryz.ntmps160;go_wp2_with(go_at_call 128;refine HC.out.mono ?_;rintro e w1 ⟨v,r,rfl,hv,hh⟩;have HP:=ah hh;clear hh)
 go_ret;exact⟨r,rfl,HP.out⟩
theorem aeM(y:Sp)(g:Nat)(f:FuncId)(fs lb:Array Value)(ef:∀args w,(callFunc f args).run Tryz.prog w= .ok (.enter f args) w)(Q:Ending->World->Prop)(W:World)
  (hg:W.cell? ⟨g,0,none⟩=some (.func (.func f) fs lb)) (hc:Calls Tryz.prog f (fs++ #[Value.agg (vec 2 (bQ y))]++lb) (W.alloc (.cells (vec 2 (bQ y)) 24)) Q) (hq:∀e w',Q e w'->∃r,e= .returned (.bool r)):
  Calls Tryz.prog 161 #[Value.agg (vec 2 (bQ y)),.pointer (some ⟨g,0,none⟩)] W fun e w'=>∃r,e= .returned (.bool (!r))/\ Q (.returned (.bool r)) w':=by
 have eg:=ef;have hgl:g<W.heap.size:=lt_of_cell hg;have hgc:(W.alloc (.cells (vec 2 (bQ y)) 24)).cell? ⟨g,0,none⟩=some (.func (.func f) fs lb):=(World.cell?_alloc_lt W _ ⟨g,0,none⟩ hgl).trans hg;have Wh:Hid (aU (W.alloc (.cells (vec 2 (bQ y)) 24)) W.heap.size 24 2 (bQ y)):=ah (aU.new W _ _ _);have HC:=ah hc;have HQ:=ah hq;clear hc hq hgl hg;go_enter Tryz.func161,Tryz.ntmps161;go_wp2_with(first
  |((with_reducible refine aqy (.load 24 _) ?_);refine bM rfl 24 _ rfl _ rfl _ (aQ Wh.out Tryz.underlying24 rfl bZ) ?_)
  |(go_at_fn f;refine HC.out.mono ?_;intro e w1 hh;obtain⟨r,rfl⟩:=HQ.out _ _ hh;have HP:=ah hh;clear hh))
 go_ret;exact⟨r,rfl,HP.out⟩
theorem abH(A:Option Addr)(B c:Nat)(l:List Sp)(hl:l.length<=1000000)(f:FuncId)(fs lb:Array Value)(n0:Nat)(I J:Nat->World->Prop)
  (H:Asks l (fun y=>Value.agg (vec 2 (bQ y))) f fs lb false n0 (fun W=>bI 2 bQ W B A l) I J) (w:World) (hn0:n0<=w.heap.size) (hI:I 0 w):
  Calls Tryz.prog 120 #[.slice A l.length c,.func (.func f) fs lb] w fun e w'=>∃r,e= .returned (.bool r)/\ dw n0 w w'/\ (r=true->I l.length w')/\ (r=false->∃i,i<l.length/\ J i w'):=by
 have eN:∀args w,(callFunc 161 args).run Tryz.prog w= .ok (.enter 161 args) w:=enters_of Tryz.func161 (by kernel_rfl) rfl;obtain⟨g,hg⟩:=aqx (w.heap.size);obtain⟨W1,hW1⟩:=aqx (w.alloc (.cells #[.func (.func f) fs lb] 88));have hb1:Below w.heap.size w W1:=(by rw [hW1];exact Below.aY w _);have hh1:W1.heap[g]?=some (.cells #[.func (.func f) fs lb] 88 (0,0)):=(by rw [hW1,hg];exact vP w _);have HA:Asks l (fun y=>Value.agg (vec 2 (bQ y))) 161 #[] #[.pointer (some ⟨g,0,none⟩)] true n0 (fun W=>bI 2 bQ W B A l) (fun i W=>I i W/\ W.heap[g]?=some (.cells #[.func (.func f) fs lb] 88 (0,0))) J:= {
  row:=fun i W h=>H.row i W h.1
  keep:=fun i W W' h hb=>⟨H.keep i W W' h.1 hb,(hb.block g (lt_of_heap h.2)).trans h.2⟩
  uj:=H.uj
  enters:=eN
  call:=fun i hi W h=>by
   have hcell:W.cell? ⟨g,0,none⟩=some (.func (.func f) fs lb):=cell_of_row W g 0 _ _ _ h.2;have hbB:Below W.heap.size W (W.alloc (.cells (vec 2 (bQ l[i])) 24)):=Below.aY W _;refine Calls.mono (aeM l[i] g f fs lb H.enters _ W hcell (H.call i hi _ (H.keep i W _ h.1 hbB)) (fun e w' hh=>by obtain⟨r,e,_⟩:=hh;exact⟨r,e⟩)) ?_;rintro e w' ⟨r,rfl,r',er,hk,hJ,hI⟩;injection er with er
   injection er with er
   subst er;refine⟨!r,rfl,(dw.of_below hbB).trans hk,fun hr=>hJ (by simpa using hr),fun hr=>⟨hI (by simpa using hr), ?_⟩⟩;exact(hk.2 g (by omega) (aN (lt_of_heap h.2) hbB.size)).trans ((hbB.block g (lt_of_heap h.2)).trans h.2) }
 have HC:=ah (abG A B c l hl 161 #[] #[.pointer (some ⟨g,0,none⟩)] n0 _ J HA W1 ⟨H.keep 0 w W1 hI hb1,hh1⟩);have HB:=ah hb1;have HW1:=ah hW1;have HG:=ah hg;obtain⟨n,hn⟩:=aqx (l.length);rw [<-hn]at HC⊢;have hmf:∀ (fn:Fn) (first cap:Array Value) (w:World),(Instr.makeFunc fn first cap).run Tryz.prog w= .ok (.func fn first cap) w:=(fun _ _ _ _=>rfl);clear H hI hl hn HA hb1 hh1 hW1 hg eN;go_enter Tryz.func120,Tryz.ntmps120;go_upto_region 1 with fail
 rw [<-HW1.out, <-HG.out];clear HW1 HG;go_wp2_with(go_at_call 160;refine HC.out.mono ?_;rintro e w1 ⟨r,rfl,hk,h1,h2⟩;have HP:=ah (ak hk (ak h1 h2));clear hk h1 h2)
 go_ret;exact⟨!r,rfl,(dw.of_below HB.out).trans HP.out.1,fun h=>(HP.out.2.2 (by simpa using h)).1,fun h=>HP.out.2.1 (by simpa using h)⟩
theorem abI(A:Option Addr)(B c:Nat)(l:List Int)(hl:l.length<=1000000)(f:FuncId)(fs lb:Array Value)(n0:Nat)(I J:Nat->World->Prop)
  (H:Asks l (fun y=>Value.int .u32 y) f fs lb true n0 (fun W=>bI 1 mP W B A l) I J) (w:World) (hI:I 0 w):
  Calls Tryz.prog 124 #[.slice A l.length c,.func (.func f) fs lb] w (VR n0 l.length I J w):=by
 have eg:=H.enters;have HH:=ah H;have HI:=ah (ak hI (dw.refl n0 w));obtain⟨n,hn⟩:=aqx (l.length);have HN:=ah hn;rw [<-hn]at hl⊢;clear H hI hn;go_enter Tryz.func124,Tryz.ntmps124;go_wp2
 go_loopw [8] (fun v W=>∃k:Nat,k<=n/\ v= .int .i64 k/\ Hid (I k W/\ dw n0 w W)) (fun v _=>n-(intOf v).toNat)
 case atStart=>exact⟨0,aB _,rfl,HI⟩
 case round=>
  clear HI;obtain⟨k,hk,rfl,HR⟩:=hrel;by_cases hlt:k<n
  · have hki:(k:Int)< (n:Int):=by omega
    have hkl:k<l.length:=(by have:=HN.out;omega);obtain⟨a0,p,rfl,hq,-,hcp⟩:=(HH.out.row k wr HR.out.1).at hkl;have hc0:wr.cell? p=some (.int .u32 l[k]):=(by have h:=hcp 0 (by decide);rw [show p.add 0=p by simp [Addr.add]]at h;exact h);clear hcp;rw [Nat.mul_one]at hq;obtain⟨yk,hyk⟩:=aqx (l[k]);rw [<-hyk]at hc0;have rE:=ah (HH.out.call k hkl wr HR.out.1);rw [<-hyk]at rE;clear hyk;go_wp2_with((go_at_fn f;refine rE.out.mono ?_;rintro e w1 ⟨r,rfl,hk1,h1,h2⟩;have HP:=ah (ak hk1 (ak h1 h2));clear hk1 h1 h2;cases r))
    · have HP2:=ah (ak (HP.out.2.2 (by first|rfl|trivial)) (HR.out.2.trans HP.out.1))
      clear HP;go_wp2_with fail
      go_roundw
      case rel=>exact⟨k+1,by omega,by go_num,HP2⟩
      case measure=>simp [intOf];omega
    · have HP2:=ah (ak (HP.out.2.1 (by first|rfl|trivial)) (HR.out.2.trans HP.out.1))
      clear HP;go_wp2_with fail
      go_ret;exact⟨_,true,rfl,decide_eq_true (by omega),HP2.out.2,fun _=>⟨k,hlt,HP2.out.1⟩,fun h=>by cases h⟩
  · obtain rfl:k=n:=by omega
    go_wp2_with fail
    go_ret;exact⟨_,false,rfl,by decide,HR.out.2,(fun h=>by cases h),fun _=>HR.out.1⟩
theorem Zy(A:Option Addr)(B c:Nat)(l:List Int)(hl:l.length<=1000000)(f:FuncId)(fs lb:Array Value)(n0:Nat)(I J:Nat->World->Prop)
  (H:Asks l (fun y=>Value.int .u32 y) f fs lb true n0 (fun W=>bI 1 mP W B A l) I J) (w:World) (hI:I 0 w):
  Calls Tryz.prog 89 #[.slice A l.length c,.func (.func f) fs lb] w fun e w'=>∃r,e= .returned (.bool r)/\ dw n0 w w'/\ (r=true->∃i,i<l.length/\ J i w')/\ (r=false->I l.length w'):=by
 have HC:=ah (abI A B c l hl f fs lb n0 I J H w hI);obtain⟨n,hn⟩:=aqx (l.length);rw [<-hn]at HC⊢;clear H hI hl hn;go_enter Tryz.func89,Tryz.ntmps89;go_wp2_with(go_at_call 124;refine HC.out.mono ?_;rintro e w1 ⟨v,r,rfl,hv,hh⟩;have HP:=ah hh;clear hh)
 go_ret;exact⟨r,rfl,HP.out⟩
theorem abJ(y:Int)(g:Nat)(f:FuncId)(fs lb:Array Value)(ef:∀args w,(callFunc f args).run Tryz.prog w= .ok (.enter f args) w)(Q:Ending->World->Prop)(W:World)
  (hg:W.cell? ⟨g,0,none⟩=some (.func (.func f) fs lb)) (hc:Calls Tryz.prog f (fs++ #[Value.int .u32 y]++lb) W Q) (hq:∀e w',Q e w'->∃r,e= .returned (.bool r)):
  Calls Tryz.prog 90 #[Value.int .u32 y,.pointer (some ⟨g,0,none⟩)] W fun e w'=>∃r,e= .returned (.bool (!r))/\ Q (.returned (.bool r)) w':=by
 have eg:=ef;have hgl:g<W.heap.size:=lt_of_cell hg;have hgc:=hg;have HC:=ah hc;have HQ:=ah hq;clear hc hq hgl;go_enter Tryz.func90,Tryz.ntmps90;go_wp2_with((go_at_fn f;refine HC.out.mono ?_;intro e w1 hh;obtain⟨r,rfl⟩:=HQ.out _ _ hh;have HP:=ah hh;clear hh))
 go_ret;exact⟨r,rfl,HP.out⟩
theorem X8(A:Option Addr)(B c:Nat)(l:List Int)(hl:l.length<=1000000)(f:FuncId)(fs lb:Array Value)(n0:Nat)(I J:Nat->World->Prop)
  (H:Asks l (fun y=>Value.int .u32 y) f fs lb false n0 (fun W=>bI 1 mP W B A l) I J) (w:World) (hn0:n0<=w.heap.size) (hI:I 0 w):
  Calls Tryz.prog 50 #[.slice A l.length c,.func (.func f) fs lb] w fun e w'=>∃r,e= .returned (.bool r)/\ dw n0 w w'/\ (r=true->I l.length w')/\ (r=false->∃i,i<l.length/\ J i w'):=by
 have eN:∀args w,(callFunc 90 args).run Tryz.prog w= .ok (.enter 90 args) w:=enters_of Tryz.func90 (by kernel_rfl) rfl;obtain⟨g,hg⟩:=aqx (w.heap.size);obtain⟨W1,hW1⟩:=aqx (w.alloc (.cells #[.func (.func f) fs lb] 104));have hb1:Below w.heap.size w W1:=(by rw [hW1];exact Below.aY w _);have hh1:W1.heap[g]?=some (.cells #[.func (.func f) fs lb] 104 (0,0)):=(by rw [hW1,hg];exact vP w _);have HA:Asks l (fun y=>Value.int .u32 y) 90 #[] #[.pointer (some ⟨g,0,none⟩)] true n0 (fun W=>bI 1 mP W B A l) (fun i W=>I i W/\ W.heap[g]?=some (.cells #[.func (.func f) fs lb] 104 (0,0))) J:= {
  row:=fun i W h=>H.row i W h.1
  keep:=fun i W W' h hb=>⟨H.keep i W W' h.1 hb,(hb.block g (lt_of_heap h.2)).trans h.2⟩
  uj:=H.uj
  enters:=eN
  call:=fun i hi W h=>by
   have hcell:W.cell? ⟨g,0,none⟩=some (.func (.func f) fs lb):=cell_of_row W g 0 _ _ _ h.2;have hbB:Below W.heap.size W W:=aC _ _;refine Calls.mono (abJ l[i] g f fs lb H.enters _ W hcell (H.call i hi _ (H.keep i W _ h.1 hbB)) (fun e w' hh=>by obtain⟨r,e,_⟩:=hh;exact⟨r,e⟩)) ?_;rintro e w' ⟨r,rfl,r',er,hk,hJ,hI⟩;injection er with er
   injection er with er
   subst er;refine⟨!r,rfl,(dw.of_below hbB).trans hk,fun hr=>hJ (by simpa using hr),fun hr=>⟨hI (by simpa using hr), ?_⟩⟩;exact(hk.2 g (by omega) (aN (lt_of_heap h.2) hbB.size)).trans ((hbB.block g (lt_of_heap h.2)).trans h.2) }
 have HC:=ah (Zy A B c l hl 90 #[] #[.pointer (some ⟨g,0,none⟩)] n0 _ J HA W1 ⟨H.keep 0 w W1 hI hb1,hh1⟩);have HB:=ah hb1;have HW1:=ah hW1;have HG:=ah hg;obtain⟨n,hn⟩:=aqx (l.length);rw [<-hn]at HC⊢;have hmf:∀ (fn:Fn) (first cap:Array Value) (w:World),(Instr.makeFunc fn first cap).run Tryz.prog w= .ok (.func fn first cap) w:=(fun _ _ _ _=>rfl);clear H hI hl hn HA hb1 hh1 hW1 hg eN;go_enter Tryz.func50,Tryz.ntmps50;go_upto_region 1 with fail
 rw [<-HW1.out, <-HG.out];clear HW1 HG;go_wp2_with(go_at_call 89;refine HC.out.mono ?_;rintro e w1 ⟨r,rfl,hk,h1,h2⟩;have HP:=ah (ak hk (ak h1 h2));clear hk h1 h2)
 go_ret;exact⟨!r,rfl,(dw.of_below HB.out).trans HP.out.1,fun h=>(HP.out.2.2 (by simpa using h)).1,fun h=>HP.out.2.1 (by simpa using h)⟩
open Go.RowKit Go.Maps
def qN:Sp:=(0,1099511627776)
def DF(l:List Sp):Bool:=l.all eG&&l.all fun s=>within s qN
def yO(b:Bd)(s:Sp):Bool:=within s b.r&& !overlap s b.l
def H6(y:De):Sp:=(y.fZ.toNat,y.size.toNat)
def Zz(b:Bd)(y:Wi):Bool:=DF [qo y,xg y]&&(!(y.perm==0)&&yO b (xg y))
def ZA(b:Bd)(y:De):Bool:=DF [H6 y,BU y]&& !overlap (BU y) b.r
theorem BO(p s:Int):uK p s=(eG (p.toNat,s.toNat)&&within (p.toNat,s.toNat) qN):=by
 unfold uK eG within good qN;rw [Bool.eq_iff_iff];simp only [Bool.and_eq_true,decide_eq_true_eq];omega
theorem ZB{b:Bd}(h:sH b=true):good b.r=true/\ b.r.1+b.r.2<=1099511627776:=by
 unfold sH Gu at h;simp only [beq_iff_eq]at h
 split at h
 · rename_i hc
   simp only [aiC,Ea,eG,Bool.and_eq_true,decide_eq_true_eq]at hc;have hg:=hc.1.1.1.1;have hl:=hc.1.1.2;refine⟨hg, ?_⟩;unfold last at hl;rw [if_pos hg]at hl;have hl:b.r.1+b.r.2-1<1099511627776:=hl;omega
 · cases h
theorem Jj{b:Bd}(h:sH b=true):0<=b.cO/\ b.cO<=1020/\ 0<=b.strs/\ b.strs<=256/\ 1<=b.gX/\ b.gX<=32:=by
 unfold sH Gu at h;simp only [beq_iff_eq]at h
 split at h
 · rename_i hc
   simp only [wS,Bool.and_eq_true,decide_eq_true_eq]at hc;omega
 · cases h
theorem QV{b:Bd}(hf:sH b=true){s:Sp}(h:within s b.r=true):within s qN=true:=by
 have hr:=(ZB hf).2;unfold within good qN at*;simp only [Bool.and_eq_true,decide_eq_true_eq]at*;omega
theorem adz{b:Bd}(hf:sH b=true)(y:Wi):Zz b y=xO b y:=by
 have hl:=(fun h=>QV (s:=xg y) hf h);unfold Zz xO DF yO;rw [BO];show(((eG (qo y))&&(eG (xg y)&&true))&&(within (qo y) qN&&(within (xg y) qN&&true))&&_)=((eG (qo y)&&within (qo y) qN)&&_)
 have hp:(!(y.perm==0))=decide (y.perm≠0):=(by by_cases h:y.perm=0<;>simp [h]);rw [hp]
 generalize eG (qo y)=a
 generalize within (qo y) qN=c
 generalize eG (xg y)=d
 generalize decide (y.perm≠0)=f
 generalize overlap (xg y) b.l=g
 revert hl
 generalize within (xg y) qN=e
 generalize within (xg y) b.r=k
 intro hl;cases k
 · simp
 · rw [hl rfl]
   cases a<;>cases c<;>cases d<;>cases f<;>cases g<;>rfl
theorem adA(b:Bd)(y:De):ZA b y=vG b y:=by
 unfold ZA vG DF;rw [BO,BO];show(((eG (H6 y))&&(eG (BU y)&&true))&&(within (H6 y) qN&&(within (BU y) qN&&true))&&_)=((eG (H6 y)&&within (H6 y) qN)&&((eG (BU y)&&within (BU y) qN)&&_))
 generalize eG (H6 y)=a
 generalize within (H6 y) qN=c
 generalize eG (BU y)=d
 generalize within (BU y) qN=e
 cases a<;>cases c<;>cases d<;>cases e<;>rfl
theorem wH{p:Int}(h:0<=p/\ p<=7):p=0∨p=1∨p=2∨p=3∨p=4∨p=5∨p=6∨p=7:=by omega
theorem YS{p:Int}(h:0<=p/\ p<=7):rW p 5=(xk p 0&&xk p 2):=by
 rcases wH h with rfl|rfl|rfl|rfl|rfl|rfl|rfl|rfl<;>decide+kernel
theorem aeN{p:Int}(h:0<=p/\ p<=7):rW p 1=xk p 0:=by
 rcases wH h with rfl|rfl|rfl|rfl|rfl|rfl|rfl|rfl<;>decide+kernel
theorem aeO{p:Int}(h:0<=p/\ p<=7):(!(p==0)&& !rW p 4)=(decide (1<=p)&&decide (p<=3)):=by
 rcases wH h with rfl|rfl|rfl|rfl|rfl|rfl|rfl|rfl<;>decide+kernel
def zk(t:Gs):Sp:=(t.Ac.toNat,16384)
def H9(t:Gs)(y:Wi):Bool:=t.entry% 4==0&&(has (qo y) t.entry.toNat&&rW y.perm 5)
theorem Yj{t:Gs}{y:Wi}{l:List Wi}(hw:t.wins=y::l)(hp:0<=y.perm/\ y.perm<=7):H9 t y=oI t:=by
 unfold H9 oI;rw [hw];simp only;rw [YS hp]
 congr 1
def BP(t:Gs)(y:Wi):Bool:=rW y.perm 1&&within (zk t) (qo y)
def ZC(t:Gs):Bool:=t.Ac==0||(t.Ac% 4096==0&&(t.wins.drop 1).any (BP t))
theorem abK{t:Gs}{y:Wi}(hp:0<=y.perm/\ y.perm<=7):BP t y=qp t y:=by
 unfold BP qp;rw [aeN hp]
 generalize xk y.perm 0=z
 have h:within (zk t) (qo y)=(has (qo y) t.Ac.toNat&&decide (16384<=y.size.toNat-(t.Ac.toNat-y.fZ.toNat))):=by
  unfold within has good zk qo;rw [Bool.eq_iff_iff];simp only [Bool.and_eq_true,decide_eq_true_eq];omega
 rw [h];cases z<;>simp
theorem any_congr{α:Type}{l:List α}{f g:α->Bool}(h:∀x∈l,f x=g x):l.any f=l.any g:=by
 induction l with
 |nil=>rfl
 |cons x l ih=>
  rw [List.any_cons,List.any_cons,h x (List.mem_cons_self ..),ih fun y hy=>h y (List.mem_cons_of_mem _ hy)]
theorem adN{t:Gs}(hp:∀y∈t.wins,0<=y.perm/\ y.perm<=7):ZC t=rV t:=by
 unfold ZC rV;rw [any_congr (l:=t.wins.drop 1) (f:=BP t) (g:=qp t) fun y hy=>abK (hp y (List.mem_of_mem_drop hy))]
 generalize (t.wins.drop 1).any (qp t)=z
 rw [Bool.and_comm]
 rfl
def JQ(b:Bd)(t:Gs)(q:Ir):Bool:=decide (32<=q.number)&&(decide (q.number<b.cO)&&zG t.gX q.cpu)
theorem adx{b:Bd}{t:Gs}{q:Ir}(hc:0<=t.gX/\ t.gX<=4294967295)(h0:0<=q.cpu):JQ b t q=Oz b t q:=by
 unfold JQ Oz;rw [decide_eq_true h0];have h:zG t.gX q.cpu=(decide (q.cpu<=31)&&xk t.gX q.cpu.toNat):=by
  unfold zG xk;by_cases hq:q.cpu<=31
  · rw [decide_eq_true hq,Bool.true_and]
  · rw [decide_eq_false hq,Bool.false_and,decide_eq_false_iff_not]
    obtain⟨m,hm⟩:=au hc.1;rw [hm];have e2:m/2^q.cpu.toNat=0:=Nat.div_eq_of_lt (aN (show m<2^32 by omega) (Nat.pow_le_pow_right (by decide) (by omega)));have f2:((m/2^q.cpu.toNat:Nat):Int)=(m:Int)/2^q.cpu.toNat:=(by norm_cast);rw [<-f2,e2]
    decide
 rw [h];cases decide (32<=q.number)<;>cases decide (q.number<b.cO)<;>rfl
def Iy(n:Nat)(y:Ch)(e:En):Bool:=decide (e.bK< (n:Int))&&((!(e.perm==0)&& !rW e.perm 4)&&DF [(e.fZ.toNat,y.size.toNat)])
theorem Yu{x:Cf}{y:Ch}{e:En}(h0:0<=e.bK)(hp:0<=e.perm/\ e.perm<=7):Iy x.gs.length y e=rQ x y e:=by
 unfold Iy rQ DF;rw [aeO hp,decide_eq_true h0,BO];show(_&&(_&&((eG (e.fZ.toNat,y.size.toNat)&&true)&&(within (e.fZ.toNat,y.size.toNat) qN&&true))))=_
 rw [Bool.and_true,Bool.and_true,Bool.true_and,Bool.and_assoc]
def NZ(n:Nat)(y:Ch):Bool:=decide (y.a.bK≠y.b.bK)&&(Iy n y y.a&&Iy n y y.b)
theorem SG(k:IntKind)(zs:List Int)(v:Int):tJ (zs.map (Lit.int k)) (.int k v)=zs.contains v:=by
 unfold tJ;rw [List.any_map,Bool.eq_iff_iff,List.any_eq_true];simp [Lit.sameKey]
theorem Eb(bs:ByteArray):∀ (n i:Nat) (r:List UInt8),n=bs.size-i->ByteArray.toList.loop bs i r=r.reverse++bs.data.toList.drop i
 |0,i,r,h=>by
  rw [ByteArray.toList.loop,if_neg (by omega),List.drop_eq_nil_of_le (by have:bs.data.toList.length=bs.size:=rfl;omega),List.append_nil]
 |n+1,i,r,h=>by
  have hi:i<bs.size:=(by omega);have hl:i<bs.data.toList.length:=hi;rw [ByteArray.toList.loop,if_pos hi,Eb bs n (i+1) _ (by omega),List.drop_eq_getElem_cons hl];have hg:bs.get! i=bs.data.toList[i]:=by
   show bs.data[i]! =_
   rw [getElem!_pos bs.data i hi];simp
  rw [hg];simp
theorem N8(a b:By):Qv a b=(a==b):=by
 unfold Qv;have h:∀l:By,(strOf l).toList=l:=fun l=>by
  unfold ByteArray.toList;rw [Eb _ _ 0 [] rfl];simp [strOf]
 rw [h,h]
theorem aa6(ns:List By)(v:By):tJ (ns.map fun s=>Lit.string (strOf s).data.toList) (.string (strOf v).data.toList)=ns.contains v:=by
 unfold tJ;rw [List.any_map,Bool.eq_iff_iff,List.any_eq_true];simp [Lit.sameKey,strOf]
open Go.RowKit
theorem uH(a b c d:Nat)(hx:fit (a,b))(hy:fit (c,d))(w:World):
   Calls Tryz.prog 83 #[.agg #[.int .u64 (a:Int),.int .u64 (b:Int)],.agg #[.int .u64 (c:Int),.int .u64 (d:Int)]] w fun e w'=>e= .returned (.bool (overlap (a,b) (c,d)))/\ Below w.heap.size w w':=by
 have Hx:=ah hx;have Hy:=ah hy;by_cases h:good (a,b)=true
 · by_cases k:good (c,d)=true
   · have E:=ah (show overlap (a,b) (c,d)=(decide (a<=last (c,d))&&decide (c<=last (a,b))) by
       have hl:=lX h;have kl:=lX k;have hg:=(iq _).1 h;have kg:=(iq _).1 k;simp only at hl kl hg kg;rw [Bool.eq_iff_iff];simp [overlap,h,k];omega)
     by_cases h1:a<=last (c,d)
     · by_cases h2:c<=last (a,b)
       · rw [show overlap (a,b) (c,d)=true from by first|(rw [E.out];simp [h1,h2])|(rw [E.out];simp [h1])|simp [overlap,h,k]|simp [overlap,h]]
         go_enter Tryz.func83,Tryz.ntmps83;go_wp2
         refine wp_region_held_drew (S:=fun W=>Below w.heap.size w W/\ W.cell? ⟨w.heap.size,0,none⟩=some (.int .u64 (a:Int))/\ W.cell? ⟨w.heap.size,1,none⟩=some (.int .u64 (b:Int))/\ W.cell? ⟨w.heap.size+1,0,none⟩=some (.int .u64 (c:Int))/\ W.cell? ⟨w.heap.size+1,1,none⟩=some (.int .u64 (d:Int))) (by kernel_rfl) (fD w a b c d _ rfl) (fun hS=> ?_);refine tA 0 ?_;refine oQ 1 fun K1 hK1=> ?_;go_simp;refine(l7 a b Hx.out _).mono ?_;rintro e w1 ⟨rfl,hd⟩;refine hK1 _ _ (fV hd hS) (fun hS1=> ?_);clear hS hd hK1 K1;refine tA 2 ?_;refine tA 3 ?_;refine oQ 4 fun K4 hK4=> ?_;go_simp;refine(l7 c d Hy.out _).mono ?_;rintro e w1 ⟨rfl,hd⟩;refine hK4 _ _ (fV hd hS1) (fun hS4=> ?_);clear hS1 hd hK4 K4;refine tA 5 ?_;refine tA 6 ?_;refine tA 7 ?_;refine tA 8 ?_;refine tA 9 ?_;refine oQ 10 fun K10 hK10=> ?_;go_simp;refine(um c d Hy.out _).mono ?_;rintro e w1 ⟨rfl,hd⟩;refine hK10 _ _ (fV hd hS4) (fun eH=> ?_);clear hS4 hd hK10 K10;refine tA 11 ?_;refine tA 12 ?_;refine tA 13 ?_;refine tA 14 ?_;refine tA 15 ?_;refine tA 16 ?_;refine oQ 17 fun oW eu=> ?_;go_simp;refine(um a b Hx.out _).mono ?_;rintro e w1 ⟨rfl,hd⟩;refine eu _ _ (fV hd eH) (fun eY=> ?_);clear eH hd eu oW;refine tA 18 ?_;refine tA 19 ?_;refine tA 20 ?_;refine wpAnyH_done (by kernel_rfl) ?_ _;go_wp2
         go_ret;exact⟨rfl,eY.1⟩
       · rw [show overlap (a,b) (c,d)=false from by first|(rw [E.out];simp [h1,h2])|(rw [E.out];simp [h1])|simp [overlap,h,k]|simp [overlap,h]]
         go_enter Tryz.func83,Tryz.ntmps83;go_wp2
         refine wp_region_held_drew (S:=fun W=>Below w.heap.size w W/\ W.cell? ⟨w.heap.size,0,none⟩=some (.int .u64 (a:Int))/\ W.cell? ⟨w.heap.size,1,none⟩=some (.int .u64 (b:Int))/\ W.cell? ⟨w.heap.size+1,0,none⟩=some (.int .u64 (c:Int))/\ W.cell? ⟨w.heap.size+1,1,none⟩=some (.int .u64 (d:Int))) (by kernel_rfl) (fD w a b c d _ rfl) (fun hS=> ?_);refine tA 0 ?_;refine oQ 1 fun K1 hK1=> ?_;go_simp;refine(l7 a b Hx.out _).mono ?_;rintro e w1 ⟨rfl,hd⟩;refine hK1 _ _ (fV hd hS) (fun hS1=> ?_);clear hS hd hK1 K1;refine tA 2 ?_;refine tA 3 ?_;refine oQ 4 fun K4 hK4=> ?_;go_simp;refine(l7 c d Hy.out _).mono ?_;rintro e w1 ⟨rfl,hd⟩;refine hK4 _ _ (fV hd hS1) (fun hS4=> ?_);clear hS1 hd hK4 K4;refine tA 5 ?_;refine tA 6 ?_;refine tA 7 ?_;refine tA 8 ?_;refine tA 9 ?_;refine oQ 10 fun K10 hK10=> ?_;go_simp;refine(um c d Hy.out _).mono ?_;rintro e w1 ⟨rfl,hd⟩;refine hK10 _ _ (fV hd hS4) (fun eH=> ?_);clear hS4 hd hK10 K10;refine tA 11 ?_;refine tA 12 ?_;refine tA 13 ?_;refine tA 14 ?_;refine tA 15 ?_;refine tA 16 ?_;refine oQ 17 fun oW eu=> ?_;go_simp;refine(um a b Hx.out _).mono ?_;rintro e w1 ⟨rfl,hd⟩;refine eu _ _ (fV hd eH) (fun eY=> ?_);clear eH hd eu oW;refine tA 18 ?_;refine tA 19 ?_;refine tA 20 ?_;refine wpAnyH_done (by kernel_rfl) ?_ _;go_wp2
         go_ret;exact⟨rfl,eY.1⟩
     · rw [show overlap (a,b) (c,d)=false from by first|(rw [E.out];simp [h1,h2])|(rw [E.out];simp [h1])|simp [overlap,h,k]|simp [overlap,h]]
       go_enter Tryz.func83,Tryz.ntmps83;go_wp2
       refine wp_region_held_drew (S:=fun W=>Below w.heap.size w W/\ W.cell? ⟨w.heap.size,0,none⟩=some (.int .u64 (a:Int))/\ W.cell? ⟨w.heap.size,1,none⟩=some (.int .u64 (b:Int))/\ W.cell? ⟨w.heap.size+1,0,none⟩=some (.int .u64 (c:Int))/\ W.cell? ⟨w.heap.size+1,1,none⟩=some (.int .u64 (d:Int))) (by kernel_rfl) (fD w a b c d _ rfl) (fun hS=> ?_);refine tA 0 ?_;refine oQ 1 fun K1 hK1=> ?_;go_simp;refine(l7 a b Hx.out _).mono ?_;rintro e w1 ⟨rfl,hd⟩;refine hK1 _ _ (fV hd hS) (fun hS1=> ?_);clear hS hd hK1 K1;refine tA 2 ?_;refine tA 3 ?_;refine oQ 4 fun K4 hK4=> ?_;go_simp;refine(l7 c d Hy.out _).mono ?_;rintro e w1 ⟨rfl,hd⟩;refine hK4 _ _ (fV hd hS1) (fun hS4=> ?_);clear hS1 hd hK4 K4;refine tA 5 ?_;refine tA 6 ?_;refine tA 7 ?_;refine tA 8 ?_;refine tA 9 ?_;refine oQ 10 fun K10 hK10=> ?_;go_simp;refine(um c d Hy.out _).mono ?_;rintro e w1 ⟨rfl,hd⟩;refine hK10 _ _ (fV hd hS4) (fun eH=> ?_);clear hS4 hd hK10 K10;refine tA 11 ?_;refine tA 12 ?_;refine tA 13 ?_;refine sQ 14 ?_;refine sQ 15 ?_;refine sQ 16 ?_;refine sQ 17 ?_;refine sQ 18 ?_;refine tA 19 ?_;refine tA 20 ?_;refine wpAnyH_done (by kernel_rfl) ?_ _;go_wp2
       go_ret;exact⟨rfl,eH.1⟩
   · rw [show overlap (a,b) (c,d)=false from by first|(rw [E.out];simp [h1,h2])|(rw [E.out];simp [h1])|simp [overlap,h,k]|simp [overlap,h]]
     go_enter Tryz.func83,Tryz.ntmps83;go_wp2
     refine wp_region_held_drew (S:=fun W=>Below w.heap.size w W/\ W.cell? ⟨w.heap.size,0,none⟩=some (.int .u64 (a:Int))/\ W.cell? ⟨w.heap.size,1,none⟩=some (.int .u64 (b:Int))/\ W.cell? ⟨w.heap.size+1,0,none⟩=some (.int .u64 (c:Int))/\ W.cell? ⟨w.heap.size+1,1,none⟩=some (.int .u64 (d:Int))) (by kernel_rfl) (fD w a b c d _ rfl) (fun hS=> ?_);refine tA 0 ?_;refine oQ 1 fun K1 hK1=> ?_;go_simp;refine(l7 a b Hx.out _).mono ?_;rintro e w1 ⟨rfl,hd⟩;refine hK1 _ _ (fV hd hS) (fun hS1=> ?_);clear hS hd hK1 K1;refine tA 2 ?_;refine tA 3 ?_;refine oQ 4 fun K4 hK4=> ?_;go_simp;refine(l7 c d Hy.out _).mono ?_;rintro e w1 ⟨rfl,hd⟩;refine hK4 _ _ (fV hd hS1) (fun hS4=> ?_);clear hS1 hd hK4 K4;refine tA 5 ?_;refine tA 6 ?_;refine sQ 7 ?_;refine sQ 8 ?_;refine sQ 9 ?_;refine sQ 10 ?_;refine sQ 11 ?_;refine tA 12 ?_;refine tA 13 ?_;refine sQ 14 ?_;refine sQ 15 ?_;refine sQ 16 ?_;refine sQ 17 ?_;refine sQ 18 ?_;refine tA 19 ?_;refine tA 20 ?_;refine wpAnyH_done (by kernel_rfl) ?_ _;go_wp2
     go_ret;exact⟨rfl,hS4.1⟩
 · rw [show overlap (a,b) (c,d)=false from by first|(rw [E.out];simp [h1,h2])|(rw [E.out];simp [h1])|simp [overlap,h,k]|simp [overlap,h]]
   go_enter Tryz.func83,Tryz.ntmps83;go_wp2
   refine wp_region_held_drew (S:=fun W=>Below w.heap.size w W/\ W.cell? ⟨w.heap.size,0,none⟩=some (.int .u64 (a:Int))/\ W.cell? ⟨w.heap.size,1,none⟩=some (.int .u64 (b:Int))/\ W.cell? ⟨w.heap.size+1,0,none⟩=some (.int .u64 (c:Int))/\ W.cell? ⟨w.heap.size+1,1,none⟩=some (.int .u64 (d:Int))) (by kernel_rfl) (fD w a b c d _ rfl) (fun hS=> ?_);refine tA 0 ?_;refine oQ 1 fun K1 hK1=> ?_;go_simp;refine(l7 a b Hx.out _).mono ?_;rintro e w1 ⟨rfl,hd⟩;refine hK1 _ _ (fV hd hS) (fun hS1=> ?_);clear hS hd hK1 K1;refine tA 2 ?_;refine sQ 3 ?_;refine sQ 4 ?_;refine tA 5 ?_;refine tA 6 ?_;refine sQ 7 ?_;refine sQ 8 ?_;refine sQ 9 ?_;refine sQ 10 ?_;refine sQ 11 ?_;refine tA 12 ?_;refine tA 13 ?_;refine sQ 14 ?_;refine sQ 15 ?_;refine sQ 16 ?_;refine sQ 17 ?_;refine sQ 18 ?_;refine tA 19 ?_;refine tA 20 ?_;refine wpAnyH_done (by kernel_rfl) ?_ _;go_wp2
   go_ret;exact⟨rfl,hS1.1⟩
open Go.RowKit Go.Maps
attribute [local go_sem ↓ high] jo oU
theorem Ia(x y:Sp)(hx:fit x)(hy:fit y)(w:World):Calls Tryz.prog 69 #[.agg (vec 2 (bQ x)),.agg (vec 2 (bQ y))] w (jc (within x y) w):=GZ x.1 x.2 y.1 y.2 hx hy w
theorem JE(x y:Sp)(hx:fit x)(hy:fit y)(w:World):Calls Tryz.prog 83 #[.agg (vec 2 (bQ x)),.agg (vec 2 (bQ y))] w (jc (overlap x y) w):=uH x.1 x.2 y.1 y.2 hx hy w
theorem row_of{w:World}{B:Nat}{A:Option Addr}{l:List Sp}(h:bI 2 bQ w B A l):Row w B A l:=fun hn=>by
 obtain⟨a,e,hb,hc⟩:=h hn;exact⟨a,e,hb,fun j hj=>⟨by have:=hc j hj 0 (by decide);rw [Nat.add_zero]at this;exact this,hc j hj 1 (by decide)⟩⟩
theorem RP(A:Option Addr)(c:Nat)(l:List Sp)(hl:l.length<=1000000)(hf:∀x∈l,fit x)(w:World)(hR:bI 2 bQ w w.heap.size A l):Calls Tryz.prog 68 #[.slice A l.length c] w (jc (l.all eG) w):=Jv A c l hl hf w (row_of hR)
theorem KL{y:Wi}(hy:KW y):fit (qo y)/\ fit (xg y):=⟨⟨(dD (dZ hy.1)).2,(dD (dZ hy.2.2.1)).2⟩,(dD (dZ hy.2.1)).2,(dD (dZ hy.2.2.1)).2⟩
theorem abL{y:De}(hy:W9 y):fit (H6 y)/\ fit (BU y):=⟨⟨(dD (dZ hy.1)).2,(dD (dZ hy.2.2)).2⟩,(dD (dZ hy.2.1)).2,(dD (dZ hy.2.2)).2⟩
theorem abM(b p s:Nat)(q:Int)(w:World):Calls Tryz.prog 79 #[.agg (vec 4 (bG ⟨(b:Int),(p:Int),(s:Int),q⟩))] w fun e w'=>e= .returned (.agg (vec 2 (bQ (b,s))))/\ Below w.heap.size w w':=by
 obtain⟨g,hg⟩:=aqx (w.heap.size);obtain⟨h,hh⟩:=aqx (w.heap.size+1);obtain⟨m,hm⟩:∃m:Wi,m=⟨(b:Int),(p:Int),(s:Int),q⟩:=⟨_,rfl⟩;obtain⟨V,hV⟩:=aqx ((w.alloc (.cells (vec 4 (bG m)) 67)).alloc (.cells (vec 2 (bQ (0,0))) 24));have k1:aU V g 67 4 (bG m):=(by rw [hV,hg];exact(aU.new w _ _ _).alloc _);have k2:aU V h 24 2 (bQ (0,0)):=(by rw [hV,hh];exact aU.newAt _ _ _ _ (by simp));have hB:Below w.heap.size w V:=(by rw [hV];exact((aC _ _).alloc (aj _) _).alloc (by simp) _);have x0:V.cell? ⟨g,0,none⟩=some (.int .u64 (b:Int)):=(by have:=k1.cell (i:=0) (by decide);rw [hm]at this;exact this);have x2:V.cell? ⟨g,2,none⟩=some (.int .u64 (s:Int)):=(by have:=k1.cell (i:=2) (by decide);rw [hm]at this;exact this);have HV:=ah hV;have HG:=ah (ak hg hh);have HB:=ah hB;have HK:=ah k2;have HH:Hid (w.heap.size<=h):=ah (by omega);rw [<-hm];clear hV hg hh k1 k2 hB hm;go_enter Tryz.func79,Tryz.ntmps79;go_upto_region 1 with fail
 rw [<-HV.out, <-HG.out.2, <-HG.out.1];clear HV HG;go_wp2_with(first
  |((with_reducible refine aqy (.build _ _) ?_);refine dh rfl 24 _ rfl (vec 2 (bQ (b,s))) (by kernel_rfl) ?_)
  |((with_reducible refine aqy (.store _ _ _) ?_);refine bD rfl 24 _ _ rfl h rfl _ rfl (aS HK.out (bQ (b,s)) bZ (kP _ _)) ?_))
 refine bodyPost_ret (fA rfl _ _ _ rfl (aQ (HK.out.row _) Tryz.underlying24 rfl bZ)) rfl ?_;exact⟨rfl,bg HB.out HH.out _⟩
theorem DI(y:Wi)(hy:KW y)(w:World):Calls Tryz.prog 79 #[.agg (vec 4 (bG y))] w fun e w'=>e= .returned (.agg (vec 2 (bQ (qo y))))/\ Below w.heap.size w w':=by
 obtain⟨mi,mp,ms,mq⟩:=y;obtain⟨b,rfl⟩:=au hy.1.1;obtain⟨p,rfl⟩:=au hy.2.1.1;obtain⟨s,rfl⟩:=au hy.2.2.1.1;exact abM b p s mq w
theorem ZE{b:Bd}{wh:Int}{m1 m2 m3 m4:Nat}{mv:Value}{w:World}{p:Nat}{t:TypeId}(h:aU w p t 13 (kE b wh m1 m2 m3 m4 mv)){i:Nat}(hi:i<7):w.cell? ⟨p,i,none⟩=some (kH b i):=by
 rw [h.cell (by omega)];show some (if i<7 then kH b i else _)=_
 rw [if_pos hi]
def KB(w:World)(p:Nat)(b:Bd):Prop:=p<w.heap.size/\ ∀i,i<7->w.cell? ⟨p,i,none⟩=some (kH b i)
theorem KB.of{b:Bd}{wh:Int}{m1 m2 m3 m4:Nat}{mv:Value}{w:World}{p:Nat}{t:TypeId}(h:aU w p t 13 (kE b wh m1 m2 m3 m4 mv)):KB w p b:=⟨h.lt,fun _ hi=>ZE h hi⟩
theorem KB.under{w w':World}{p:Nat}{b:Bd}(h:KB w p b)(hb:Below w.heap.size w w'):KB w' p b:=⟨aN h.1 hb.size,fun i hi=>(hb.cell h.1).trans (h.2 i hi)⟩
theorem KB.ram{w:World}{p:Nat}{b:Bd}(h:KB w p b):∀i,i<2->w.cell? ((⟨p,0,none⟩:Addr).add i)=some (bQ b.r i):=fun i hi=>by
 rw [lF,h.2 _ (by omega)];rcases(by omega:i=0∨i=1)with rfl|rfl<;>rfl
theorem KB.load{w:World}{p:Nat}{b:Bd}(h:KB w p b):∀i,i<2->w.cell? ((⟨p,2,none⟩:Addr).add i)=some (bQ b.l i):=fun i hi=>by
 rw [lF,h.2 _ (by omega)];rcases(by omega:i=0∨i=1)with rfl|rfl<;>rfl
theorem IV(p:Nat)(b:Bd)(s:Sp)(hs:fit s)(hr:fit b.r)(hl:fit b.l)(w:World)(h:KB w p b):Calls Tryz.prog 80 #[.pointer (some ⟨p,0,none⟩),.agg (vec 2 (bQ s))] w (jc (yO b s) w):=by
 obtain⟨z1,hz1⟩:=aqx (within s b.r);obtain⟨z2,hz2⟩:=aqx (overlap s b.l);have e:yO b s=(z1&& !z2):=(by unfold yO;rw [<-hz1, <-hz2]);rw [e];have OZ:Hid (∀W,Calls Tryz.prog 69 #[.agg (vec 2 (bQ s)),.agg (vec 2 (bQ b.r))] W (jc z1 W)):=ah (by rw [hz1];exact fun W=>Ia s b.r hs hr W);have HP2:Hid (∀W,Calls Tryz.prog 83 #[.agg (vec 2 (bQ s)),.agg (vec 2 (bQ b.l))] W (jc z2 W)):=ah (by rw [hz2];exact fun W=>JE s b.l hs hl W);unfold jc at OZ HP2⊢;obtain⟨r3,hr3⟩:=aqx (w.heap.size);obtain⟨V,hV⟩:=aqx (w.alloc (.cells (vec 2 (bQ s)) 24));have hb:Below w.heap.size w V:=(by rw [hV];exact Below.aY w _);have HA:Hid (aU V r3 24 2 (bQ s)):=ah (by rw [hV,hr3];exact aU.new _ _ _ _);have HK:=ah (h.under hb);have HB:=ah hb;have HV:=ah hV;have HR:=ah hr3;clear hz1 hz2 e hs hr hl h hb hV hr3;go_enter Tryz.func80,Tryz.ntmps80;go_upto_region 1 with fail
 rw [<-HV.out, <-HR.out];clear HV HR;cases z1
 case false=>
  refine wp_region_held_drew (S:=fun Y=>Below V.heap.size V Y) (by kernel_rfl) (show Below V.heap.size V V.drew from below_drewN (aC _ _) 1) (fun hS=> ?_);refine tP 0 (v:= .agg (vec 2 (bQ s))) (hy:=by(intro W hW;exact bF 24 _ rfl r3 rfl _ (aQ (HA.out.under hW) Tryz.underlying24 rfl bZ))) ?_;refine tP 1 ?_;refine tP 2 ?_;refine tP 3 ?_;refine tP 4 ?_;refine tP 5 (v:= .agg (vec 2 (bQ b.r))) (hy:=by(intro W hW;exact dI 24 _ rfl ⟨p,0,none⟩ (by first|rfl|(simp;done)) _ (aW ((HK.out.under hW).ram) Tryz.underlying24 rfl bZ))) ?_;refine oQ 6 fun K6 hK6=> ?_;go_simp;refine(OZ.out _).mono ?_;rintro e y6 ⟨rfl,hd⟩;refine hK6 _ _ (Below.trans hS (hd.mono (Below.size hS))) (fun hS6=> ?_);clear hS hd hK6 K6;refine tP 7 ?_;refine sQ 8 ?_;refine sQ 9 ?_;refine sQ 10 ?_;refine sQ 11 ?_;refine sQ 12 ?_;refine sQ 13 ?_;refine sQ 14 ?_;refine sQ 15 ?_;refine tP 16 ?_;refine tP 17 ?_;refine wpAnyH_done (by kernel_rfl) ?_ _;go_wp2_with fail
  go_ret;exact⟨rfl,HB.out.trans (hS6.mono HB.out.size)⟩
 case true=>
  refine wp_region_held_drew (S:=fun Y=>Below V.heap.size V Y) (by kernel_rfl) (show Below V.heap.size V V.drew from below_drewN (aC _ _) 1) (fun hS=> ?_);refine tP 0 (v:= .agg (vec 2 (bQ s))) (hy:=by(intro W hW;exact bF 24 _ rfl r3 rfl _ (aQ (HA.out.under hW) Tryz.underlying24 rfl bZ))) ?_;refine tP 1 ?_;refine tP 2 ?_;refine tP 3 ?_;refine tP 4 ?_;refine tP 5 (v:= .agg (vec 2 (bQ b.r))) (hy:=by(intro W hW;exact dI 24 _ rfl ⟨p,0,none⟩ (by first|rfl|(simp;done)) _ (aW ((HK.out.under hW).ram) Tryz.underlying24 rfl bZ))) ?_;refine oQ 6 fun K6 hK6=> ?_;go_simp;refine(OZ.out _).mono ?_;rintro e y6 ⟨rfl,hd⟩;refine hK6 _ _ (Below.trans hS (hd.mono (Below.size hS))) (fun hS6=> ?_);clear hS hd hK6 K6;refine tP 7 ?_;refine tP 8 (v:= .agg (vec 2 (bQ s))) (hy:=by(intro W hW;exact bF 24 _ rfl r3 rfl _ (aQ (HA.out.under hW) Tryz.underlying24 rfl bZ))) ?_;refine tP 9 ?_;refine tP 10 ?_;refine tP 11 ?_;refine tP 12 ?_;refine tP 13 (v:= .agg (vec 2 (bQ b.l))) (hy:=by(intro W hW;exact dI 24 _ rfl ⟨p,2,none⟩ (by first|rfl|(simp;done)) _ (aW ((HK.out.under hW).load) Tryz.underlying24 rfl bZ))) ?_;refine oQ 14 fun FC nY=> ?_;go_simp;refine(HP2.out _).mono ?_;rintro e lQ ⟨rfl,hd⟩;refine nY _ _ (Below.trans hS6 (hd.mono (Below.size hS6))) (fun jU=> ?_);clear hS6 hd nY FC;refine tP 15 ?_;refine tP 16 ?_;refine tP 17 ?_;refine wpAnyH_done (by kernel_rfl) ?_ _;go_wp2_with fail
  go_ret;exact⟨rfl,HB.out.trans (jU.mono HB.out.size)⟩
theorem ZF(y s:Sp)(hy:fit y)(hs:fit s)(g:Nat)(w:World)(hg:aU w g 24 2 (bQ s)):Calls Tryz.prog 121 #[.agg (vec 2 (bQ y)),.pointer (some ⟨g,0,none⟩)] w (jc (within y s) w):=by
 obtain⟨z1,hz1⟩:=aqx (within y s);have OZ:Hid (∀W,Calls Tryz.prog 69 #[.agg (vec 2 (bQ y)),.agg (vec 2 (bQ s))] W (jc z1 W)):=ah (by rw [hz1];exact fun W=>Ia y s hy hs W);rw [<-hz1];unfold jc at OZ⊢;obtain⟨r3,hr3⟩:=aqx (w.heap.size);obtain⟨V,hV⟩:=aqx (w.alloc (.cells (vec 2 (bQ y)) 24));have hb:Below w.heap.size w V:=(by rw [hV];exact Below.aY w _);have HA:Hid (aU V r3 24 2 (bQ y)):=ah (by rw [hV,hr3];exact aU.new _ _ _ _);have HK:=ah (hg.under hb);have HB:=ah hb;have HV:=ah hV;have HR:=ah hr3;clear hz1 hy hs hg hb hV hr3;go_enter Tryz.func121,Tryz.ntmps121;go_upto_region 1 with fail
 rw [<-HV.out, <-HR.out];clear HV HR;go_wp2_with(first
  |((with_reducible refine aqz 4 (.load 24 _) ?_);refine bM rfl 24 _ rfl r3 rfl _ (aQ HA.out Tryz.underlying24 rfl bZ) ?_)
  |((with_reducible refine aqz 5 (.load 24 _) ?_);refine bM rfl 24 _ rfl g rfl _ (aQ HK.out Tryz.underlying24 rfl bZ) ?_)
  |(go_at_call 69;refine(OZ.out _).mono ?_;rintro e w1 ⟨rfl,hd⟩;have HD:=ah hd;clear hd))
 go_ret;exact⟨rfl,HB.out.trans (HD.out.mono HB.out.size)⟩
theorem Qd{α:Type}{l:List α}{f:α->Bool}(h:∀i (hi:i<l.length),f l[i]=true):l.all f=true:=List.all_eq_true.2 fun x hx=>by
 obtain⟨i,hi,rfl⟩:=List.getElem_of_mem hx;exact h i hi
theorem vg{α:Type}{l:List α}{f:α->Bool}{i:Nat}(hi:i<l.length)(h:f l[i]=false):l.all f=false:=by
 rw [<-Bool.not_eq_true,List.all_eq_true];intro hh;rw [hh _ (ay hi)]at h;cases h
theorem Asks.pure{α:Type}{l:List α}{val:α->Value}{f:FuncId}{fs lb:Array Value}{q:α->Bool}{n0:Nat}{Rw:World->Prop}{V:World}(stop:Bool)
  (hrow:∀W,Below V.heap.size V W->Rw W) (he:∀args w,(callFunc f args).run Tryz.prog w= .ok (.enter f args) w)
  (hc:∀i (hi:i<l.length) W,Below V.heap.size V W->Calls Tryz.prog f (fs++ #[val l[i]]++lb) W (jc (q l[i]) W)):
  Asks l val f fs lb stop n0 Rw (fun i W=>Below V.heap.size V W/\ ∀j (hj:j<l.length),j<i->q l[j]= !stop) (fun i W=>Below V.heap.size V W/\ ∃hi:i<l.length,q l[i]=stop) where
 row:=fun i W h=>hrow W h.1
 keep:=fun i W W' h hb=>⟨h.1.trans (hb.mono h.1.size),h.2⟩
 uj:=fun i W W' h hb=>⟨h.1.trans (hb.mono h.1.size),h.2⟩
 enters:=he
 call:=fun i hi W h=>(hc i hi W h.1).mono fun e W' hh=>⟨q l[i],hh.1,.of_below hh.2,fun e=>⟨h.1.trans (hh.2.mono h.1.size),hi,e⟩,fun e=>⟨h.1.trans (hh.2.mono h.1.size),fun j hj hlt=>by
  rcases Nat.lt_or_ge j i with h1|h1
  · exact h.2 j hj h1
  · obtain rfl:j=i:=by omega
    exact e⟩⟩
theorem abN:fit qN:=by unfold fit qN;decide
theorem Ib(A:Option Addr)(c:Nat)(l:List Sp)(hl:l.length<=1000000)(hf:∀x∈l,fit x)(w:World)(hR:bI 2 bQ w w.heap.size A l):Calls Tryz.prog 78 #[.slice A l.length c] w (jc (DF l) w):=by
 obtain⟨z1,hz1⟩:=aqx (l.all eG);obtain⟨z2,hz2⟩:=aqx (l.all (fun s=>within s qN));have e:DF l=(z1&&z2):=(by unfold DF;rw [<-hz1, <-hz2]);rw [e];obtain⟨g,hg⟩:=aqx (w.heap.size);obtain⟨V,hV⟩:=aqx ((w.alloc (.cells (vec 2 (bQ (0,0))) 24)).setRow w.heap.size (vec 2 (bQ qN)));have hb:Below w.heap.size w V:=(by rw [hV];exact bg ((aC _ _).alloc (aj _) _) (aj _) _);have ha:aU V g 24 2 (bQ qN):=(by rw [hV,hg];exact(aU.new w _ _ _).row _);have HP:Hid (∀W,Below V.heap.size V W->Calls Tryz.prog 68 #[.slice A l.length c] W (jc z1 W)):=ah (by rw [hz1];exact fun W hW=>RP A c l hl hf W (((hR.below hb).below (hW.mono hb.size)).wide (aA hb.size hW.size)));have eL:∀args w,(callFunc 121 args).run Tryz.prog w= .ok (.enter 121 args) w:=enters_of Tryz.func121 (by kernel_rfl) rfl;have HE:Hid (∀W,Below V.heap.size V W->Calls Tryz.prog 120 #[.slice A l.length c,.func (.func 121) #[] #[.pointer (some ⟨g,0,none⟩)]] W (jc z2 W)):=ah fun W hW=>by
  have hq:=abH A W.heap.size c l hl 121 #[] #[.pointer (some ⟨g,0,none⟩)] W.heap.size _ _ (Asks.pure (V:=W) (q:=fun y=>within y qN) (n0:=W.heap.size) (Rw:=fun Y=>bI 2 bQ Y W.heap.size A l) false
   (fun Y hY=>(((hR.below hb).below (hW.mono hb.size)).wide (aA hb.size hW.size)).below hY) eL
   (fun i hi Y hY=>ZF l[i] qN (hf _ (ay hi)) abN g Y ((ha.under hW).under hY))) W (aj _) ⟨aC _ _,fun j _ hj=>by omega⟩
  refine hq.mono ?_;rintro e w' ⟨r,rfl,-,h1,h2⟩;cases r with
  |true=>exact⟨by rw [hz2,Qd fun i hi=>(h1 rfl).2 i hi hi],(h1 rfl).1⟩
  |false=>
   obtain⟨i,hi,hB,hi2,hq⟩:=h2 rfl;exact⟨by rw [hz2,vg (f:=fun s=>within s qN) hi hq],hB⟩
 obtain⟨n,hn⟩:=aqx (l.length);rw [<-hn]at HP HE⊢;unfold jc at HP HE⊢;have hmf:∀ (fn:Fn) (first cap:Array Value) (w:World),(Instr.makeFunc fn first cap).run Tryz.prog w= .ok (.func fn first cap) w:=(fun _ _ _ _=>rfl);have HB:=ah hb;have HV:=ah hV;have HG:=ah hg;clear hz1 hz2 e hl hf hR hb hV hg ha eL hn;go_enter Tryz.func78,Tryz.ntmps78;go_upto_region 2 with(first
  |((with_reducible refine aqy (.build _ _) ?_);refine dh rfl 24 _ rfl (vec 2 (bQ qN)) (by kernel_rfl) ?_)
  |((with_reducible refine aqy (.store _ _ _) ?_);refine bD rfl 24 _ _ rfl _ rfl _ rfl (aS (aU.new w _ _ _) (bQ qN) bZ (kP _ _)) ?_))
 rw [<-HV.out, <-HG.out];clear HV HG;cases z1
 case false=>
  go_wp2_with(go_at_call 68;refine(HP.out _ (aC _ _)).mono ?_;rintro e w1 ⟨rfl,hd⟩;have HD:=ah hd;clear hd)
  go_ret;exact⟨rfl,HB.out.trans (HD.out.mono HB.out.size)⟩
 case true=>
  go_wp2_with(first
   |(go_at_call 68;refine(HP.out _ (aC _ _)).mono ?_;rintro e w1 ⟨rfl,hd⟩;have HD:=ah hd;clear hd)
   |(go_at_call 120;refine(HE.out _ HD.out).mono ?_;rintro e w2 ⟨rfl,hd⟩;have HD2:=ah (HD.out.trans (hd.mono HD.out.size));clear hd))
  go_ret;exact⟨rfl,HB.out.trans (HD2.out.mono HB.out.size)⟩
end Go.Proofs.YtkaipknkjocfiaaGreat
