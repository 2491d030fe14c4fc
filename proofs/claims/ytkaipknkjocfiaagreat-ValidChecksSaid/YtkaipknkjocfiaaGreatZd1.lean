import Derived.WalkKit
import Derived.WalkSpells
import Derived.Deep.QuietTactic
import Derived.BigQuiet
import Derived.KernelRfl
import Derived.IntWalk
import Derived.Shelf.Strconv.Itoa0
import Derived.Laws.BitsAllLaws
import Derived.Laws.MakeOwn
import Derived.Laws.BytesArg
import Derived.WalkLawsBesides
import Derived.Laws.StructEq
import Derived.Laws.Small
import Derived.ChangeKeysEq
import Derived.Test.YtkaipknkjocfiaaGreatChecked
import Derived.Test.YtkaipknkjocfiaaGreatZd0
set_option maxRecDepth 100000
set_option maxHeartbeats 64000000
namespace Go.Proofs.YtkaipknkjocfiaaGreat
open Go.RowKit
def O1(xs:List Nat):List Value:=xs.map fun(x:Nat)=>Value.int .u64 (x:Int)
def acy:Go.Shelf.Ren:=⟨fun|129=>189|n=>n,fun|53=>22|3=>3|4=>4|46=>199|5=>5|9=>9|n=>n,fun|n=>n⟩
theorem lays129:Go.Proofs.Lays.n129 Tryz.prog acy:= {
 mixed:=by kernel_rfl
 f129:=Tryz.func189.trans (congrArg some (by kernel_rfl))
 t3:=Tryz.underlying3
 a3:=Tryz.isAgg3
 z3:=Tryz.sizeOf3
 v3:=Tryz.zeroValue3
 t4:=Tryz.underlying4
 a4:=Tryz.isAgg4
 z4:=Tryz.sizeOf4
 v4:=Tryz.zeroValue4
 t5:=Tryz.underlying5
 a5:=Tryz.isAgg5
 z5:=Tryz.sizeOf5
 v5:=Tryz.zeroValue5
 t9:=Tryz.underlying9
 a9:=Tryz.isAgg9
 z9:=Tryz.sizeOf9
 v9:=Tryz.zeroValue9
 t46:=Tryz.underlying199
 a46:=Tryz.isAgg199
 z46:=Tryz.sizeOf199
 v46:=Tryz.zeroValue199
 t53:=Tryz.underlying22
 a53:=Tryz.isAgg22
 z53:=Tryz.sizeOf22
 v53:=Tryz.zeroValue22 }
theorem IE(x:Int)(w:World)(h0:0<=x)(h1:x<=18446744073709551615):
 Calls Tryz.prog 189 #[.int .u64 x] w fun e w'=>e= .returned (.int .i64 (Lib.bitLen x.toNat))/\ w'=w:=Any.bits_Len64 lays129 x w h0 h1
theorem TQ(w:World):Calls Tryz.prog 189 #[.int .u64 18446744073709551615] w fun e w'=>e= .returned (.int .i64 64)/\ w=w':=
 (IE _ w (by decide) (by decide)).mono fun e w' ⟨h1,h2⟩=>⟨h1.trans (congrArg (fun n:Nat=>Ending.returned (.int .i64 (n:Int))) (show Lib.bitLen _=64 by decide+kernel)),h2.symm⟩
theorem O4(w:World):Calls Tryz.prog 189 #[.int .u64 4294967295] w fun e w'=>e= .returned (.int .i64 32)/\ w=w':=
 (IE _ w (by decide) (by decide)).mono fun e w' ⟨h1,h2⟩=>⟨h1.trans (congrArg (fun n:Nat=>Ending.returned (.int .i64 (n:Int))) (show Lib.bitLen _=32 by decide+kernel)),h2.symm⟩
theorem vT(w:World):Calls Tryz.prog 178 #[] w fun e w'=>e= .returned (.int .i64 4)/\ w=w':=by
 go_enter Tryz.func178,Tryz.ntmps178;go_wp2_with(go_at_call 189;refine(O4 _).mono ?_;rintro e w' ⟨rfl,rfl⟩)
 go_ret;exact⟨rfl,rfl⟩
theorem O5(w:World):Calls Tryz.prog 190 #[] w fun e w'=>e= .returned (.int .i64 8)/\ w=w':=by
 go_enter Tryz.func190,Tryz.ntmps190;go_wp2_with(go_at_call 189;refine(TQ _).mono ?_;rintro e w' ⟨rfl,rfl⟩)
 go_ret;exact⟨rfl,rfl⟩
def vU(o i m:Int):Int:=if o=1 then 8*i else 8*(m-1-i)
theorem uY(i m:Int):vU 1 i m=8*i:=rfl
theorem qF(i m:Int):vU 0 i m=8*(m-1-i):=rfl
theorem BZ(o i m:Int)(ho:o=0∨o=1)(h0:0<=i)(h1:i<m)(h2:m<=8)(w:World):
   Calls Tryz.prog 179 #[.int .i64 o,.int .i64 i,.int .i64 m] w fun e w'=>e= .returned (.int .i64 (vU o i m))/\ w=w':=by
 rcases ho with rfl|rfl
 · go_enter Tryz.func179,Tryz.ntmps179
   go_wp2
   go_ret;exact⟨rfl,rfl⟩
 · go_enter Tryz.func179,Tryz.ntmps179
   go_wp2
   go_ret;exact⟨rfl,rfl⟩
def Cb(o:Int)(wide:Nat)(m:Nat)(b:Nat->UInt8):Nat->Nat
 |0=>0
 |k+1=>Cb o wide m b k|||((b k).toNat*2^min (vU o k wide).toNat (8*wide)% m)
theorem aal(o:Int)(wide n:Nat)(b:Nat->UInt8)(k:Nat):Cb o wide (2^n) b k<2^n:=by
 induction k with
 |zero=>exact Nat.pow_pos (by decide)
 |succ k ih=>exact Nat.or_lt_two_pow ih (Nat.mod_lt _ (Nat.pow_pos (by decide)))
theorem acz(o:Int)(b:Nat->UInt8)(k:Nat)(x:Int)(hx:x=((b k).toNat:Int)):
  bits .or .u32 ((Cb o 4 4294967296 b k:Nat):Int) (x*2^min (vU o k 4).toNat 32% 4294967296)=((Cb o 4 4294967296 b (k+1):Nat):Int):=by
 subst hx;have h:=aal o 4 32 b k;have e:((b k).toNat:Int)*2^min (vU o k 4).toNat 32% 4294967296=(((b k).toNat*2^min (vU o k 4).toNat 32% 4294967296:Nat):Int):=(by simp);rw [e,u32_or_nat _ _ h (Nat.mod_lt _ (by decide))]
 rfl
def KT(l:List UInt8)(at_:Nat):Nat->UInt8:=fun j=>l.getD (at_+j) 0
theorem WB(l:List UInt8)(at_ k:Nat)(h:at_+k<l.length):((l[at_+k].toNat:Nat):Int)=((KT l at_ k).toNat:Int):=by
 unfold KT;rw [List.getD_eq_getElem?_getD,aF h];rfl
theorem TR(l:List UInt8)(A:Option Addr)(c B:Nat)(at_:Nat)(o:Int)(ho:o=0∨o=1)(w:World)(hat:at_+4<=l.length)(hl:l.length<=maxLen)(h:Lies w B 1 A l.length (jF l)):
  Calls Tryz.prog 188 #[.slice A l.length c,.int .i64 (at_:Int),.int .i64 o] w fun e w'=>e= .returned (.tuple #[.int .u32 (Cb o 4 4294967296 (KT l at_) 4:Nat),.bool true])/\ ∃n,w'=w.drewN n:=by
 unfold maxLen at hl;have HO:=ah ho;clear ho;have Hw:=ah h;clear h;go_enter Tryz.func188,Tryz.ntmps188;go_wp2_with(go_at_call 178;refine(vT _).mono ?_;rintro e w' ⟨rfl,rfl⟩)
 go_loopw [9,10,24] (fun n i24 j W=>∃k:Nat,k<=4/\ j= .int .i64 k/\ n= .int .u32 (Cb o 4 4294967296 (KT l at_) k:Nat)/\ ∃m,W=w.drewN m) (fun _ _ i _=>4-(intOf i).toNat)
 case atStart=>exact⟨0,aB _,rfl,rfl,0,rfl⟩
 case round=>
  obtain⟨k,hk,rfl,rfl,m,hm⟩:=hrel;have hw:Lies wr B 1 A l.length (jF l):=(by rw [hm];exact Hw.out.drewN m);have Hm:=ah hm;clear hm;by_cases hlt:k<4
  · obtain⟨a,hx,rfl,hb,hc⟩:=hw.DK (k:=at_+k) (by omega)
    have hb8:=Wu l[at_+k];go_wp2
    have s0:=acz o (KT l at_) k _ (WB l at_ k hx);have s1:IntKind.i64.wrap ((at_:Int)+k)=at_+k:=IntWalk.i64_in _ (by omega);have s2:(0:Int)<=at_+k:=(by omega);have s3:((at_:Int)+k).toNat=at_+k:=(by omega);have s4:(at_:Int)+k<l.length:=(by omega);have s5:0<=vU o k 4:=by rcases HO.out with rfl|rfl<;>simp only [uY,qF]<;>omega
    go_quiet ((go_at_call 179;exact Ws (BZ _ _ _ HO.out (by omega) (by omega) (by omega) _)))
    clear s0 s1 s2 s3 s4 s5;go_wp2
    go_roundw
    case rel=>exact⟨k+1,by omega,by go_num,rfl,m+nq,by rw [Hm.out,World.drewN_drewN]⟩
    case measure=>simp [intOf];omega
  · obtain rfl:k=4:=by omega
    go_wp2
    go_ret2
    exact⟨rfl,m,Hm.out⟩
theorem O6(A:Option Addr)(n c:Nat)(at_ o:Int)(w:World)(hat:at_<0∨(n:Int)-4<at_)(hl:n<=maxLen):
   Calls Tryz.prog 188 #[.slice A n c,.int .i64 at_,.int .i64 o] w fun e w'=>e= .returned (.tuple #[.int .u32 0,.bool false])/\ w=w':=by
 unfold maxLen at hl;by_cases h0:at_<0
 · clear hat
   go_enter Tryz.func188,Tryz.ntmps188;go_wp2_with(go_at_call 178;refine(vT _).mono ?_;rintro e w' ⟨rfl,rfl⟩)
   go_ret2
   exact⟨rfl,rfl⟩
 · have h1:(n:Int)-4<at_:=by omega
   have h2:¬at_<0:=h0;clear hat h0;go_enter Tryz.func188,Tryz.ntmps188;go_wp2_with(go_at_call 178;refine(vT _).mono ?_;rintro e w' ⟨rfl,rfl⟩)
   go_ret2
   exact⟨rfl,rfl⟩
def oO(b:Nat->UInt8):Nat->Nat
 |0=>0
 |k+1=>oO b k*256+(b k).toNat
def yL(b:Nat->UInt8):Nat->Nat
 |0=>0
 |k+1=>yL b k+(b k).toNat*256^k
theorem Ry(b:Nat->UInt8)(k:Nat):oO b k<256^k:=by
 induction k with
 |zero=>exact Nat.one_pos
 |succ k ih=>have:=(b k).toNat_lt;simp only [oO];rw [Nat.pow_succ];omega
theorem WC(b:Nat->UInt8)(k:Nat):yL b k<256^k:=by
 induction k with
 |zero=>exact Nat.one_pos
 |succ k ih=>
  have:=(b k).toNat_lt;simp only [yL];have h2:(b k).toNat*256^k<=255*256^k:=Nat.mul_le_mul_right _ (by omega);rw [Nat.pow_succ];omega
theorem zo(k:Nat):(256:Nat)^k=2^ (8*k):=by
 rw [show(256:Nat)=2^8 from rfl, <-Nat.pow_mul]
theorem aam(b:Nat->UInt8)(k:Nat):oO b k*256|||(b k).toNat=oO b (k+1):=by
 have:=(b k).toNat_lt;exact nat_join 8 _ _ (by omega) (by omega)
theorem aan(b:Nat->UInt8)(w k:Nat)(hk:k<w):
  oO b k*256^ (w-k)|||((b k).toNat*2^ (8*(w-1-k))% 2^ (8*w))=oO b (k+1)*256^ (w-(k+1)):=by
 have hb:=(b k).toNat_lt;have e1:w-k=(w-(k+1))+1:=(by omega);have e2:w-1-k=w-(k+1):=(by omega);have hlt:(b k).toNat*2^ (8*(w-(k+1)))<2^ (8*(w-k)):=by
  rw [<-zo, <-zo,e1,Nat.pow_succ,Nat.mul_comm _ 256];exact Nat.mul_lt_mul_of_pos_right (by omega) (Nat.pow_pos (by decide))
 have hle:2^ (8*(w-k))<=2^ (8*w):=Nat.pow_le_pow_right (by decide) (by omega);rw [e2,Nat.mod_eq_of_lt (by omega)];rw [zo (w-k),nat_join (8*(w-k)) _ _ (Nat.mul_mod_left _ _) hlt, <-zo, <-zo,e1,Nat.pow_succ];simp only [oO];rw [Nat.add_mul,Nat.mul_assoc,Nat.mul_comm 256]
theorem acA(b:Nat->UInt8)(w k:Nat)(hk:k<w):
  yL b k|||((b k).toNat*2^ (8*k)% 2^ (8*w))=yL b (k+1):=by
 have hb:=(b k).toNat_lt;have hlt:(b k).toNat*2^ (8*k)<2^ (8*w):=by
  have h1:(b k).toNat*2^ (8*k)<2^8*2^ (8*k):=Nat.mul_lt_mul_of_pos_right (by omega) (Nat.pow_pos (by decide));rw [<-Nat.pow_add]at h1;exact aN h1 (Nat.pow_le_pow_right (by decide) (by omega))
 have hs:=WC b k;rw [zo]at hs;rw [Nat.mod_eq_of_lt hlt,Nat.or_comm,nat_join (8*k) _ _ (Nat.mul_mod_left _ _) hs];simp only [yL];rw [zo,Nat.add_comm]
theorem TS(b c:Nat->UInt8)(h:∀j,j<4->c j=b (3-j)):oO c 4=yL b 4:=by
 have e0:c 0=b 3:=h 0 (by omega);have e1:c 1=b 2:=h 1 (by omega);have e2:c 2=b 1:=h 2 (by omega);have e3:c 3=b 0:=h 3 (by omega);simp only [oO,yL,e0,e1,e2,e3];omega
open Go.RowKit
theorem TU(w:Nat)(b:Nat->UInt8)(k:Nat)(hk:k<=w):Cb 0 w (2^ (8*w)) b k=oO b k*256^ (w-k):=by
 induction k with
 |zero=>simp [Cb,oO]
 |succ k ih=>
  have e:(vU 0 (k:Int) (w:Int)).toNat=8*(w-1-k):=(by rw [qF];omega);rw [Cb,ih (by omega),e,Nat.min_eq_left (by omega),aan b w k (by omega)]
theorem WE(w:Nat)(b:Nat->UInt8)(k:Nat)(hk:k<=w):Cb 1 w (2^ (8*w)) b k=yL b k:=by
 induction k with
 |zero=>simp [Cb,yL]
 |succ k ih=>
  have e:(vU 1 (k:Int) (w:Int)).toNat=8*k:=(by rw [uY];omega);rw [Cb,ih (by omega),e,Nat.min_eq_left (by omega),acA b w k (by omega)]
theorem IG(b:Nat->UInt8)(k:Nat)(hk:k<8)(x:Int)(hx:x=((b k).toNat:Int)):
  bits .or .u64 (((oO b k:Nat):Int)*256) x=((oO b (k+1):Nat):Int):=by
 subst hx;have h:=Ry b k;have hp:256^k<=256^7:=Nat.pow_le_pow_right (by decide) (by omega);have hb:=(b k).toNat_lt;have e:((oO b k:Nat):Int)*256=((oO b k*256:Nat):Int):=(by simp);rw [e,u64_or_nat _ _ (by omega) (by omega),aam]
theorem EW(b:Nat->UInt8)(k:Nat)(hk:k<8):((oO b k:Nat):Int)<=72057594037927935:=by
 have h:=Ry b k;have hp:256^k<=256^7:=Nat.pow_le_pow_right (by decide) (by omega);omega
def JH(l:List UInt8)(at_ size:Nat):Nat->UInt8:=fun j=>l.getD (at_+size-1-j) 0
theorem aao(l:List UInt8)(at_ size k:Nat)(h:at_+size-1-k<l.length):((l[at_+size-1-k].toNat:Nat):Int)=((JH l at_ size k).toNat:Int):=by
 unfold JH;rw [List.getD_eq_getElem?_getD,aF h];rfl
theorem LH(l:List UInt8)(A:Option Addr)(c B:Nat)(at_ size:Nat)(hs:size<=8)(w:World)(hat:at_+size<=l.length)(hl:l.length<=maxLen)(h:Lies w B 1 A l.length (jF l)):
  Calls Tryz.prog 139 #[.slice A l.length c,.int .i64 (at_:Int),.int .i64 (size:Int),.bool false] w fun e w'=>e= .returned (.tuple #[.int .u64 (oO (KT l at_) size:Nat),.bool true])/\ w=w':=by
 unfold maxLen at hl;have Hw:=ah h;clear h;go_enter Tryz.func139,Tryz.ntmps139;go_wp2
 go_loop [10,11] (fun n j=>∃k:Nat,k<=size/\ j= .int .i64 k/\ n= .int .u64 (oO (KT l at_) k:Nat)) (fun _ i=>size-(intOf i).toNat)
 case atStart=>exact⟨0,aB _,rfl,rfl⟩
 case round=>
  obtain⟨k,hk,rfl,rfl⟩:=hrel;by_cases hlt:k<size
  · obtain⟨a,hx,rfl,hb,hc⟩:=Hw.out.DK (k:=at_+k) (by omega)
    have hb8:=Wu l[at_+k];have s0:=IG (KT l at_) k (by omega) _ (WB l at_ k hx);have s1:=EW (KT l at_) k (by omega);go_wp2
    go_round
    case rel=>exact⟨k+1,by omega,by go_num,rfl⟩
    case measure=>simp [intOf];omega
  · obtain rfl:k=size:=by omega
    go_wp2
    go_ret2
    exact⟨rfl,rfl⟩
theorem O7(l:List UInt8)(A:Option Addr)(c B:Nat)(at_ size:Nat)(hs:size<=8)(w:World)(hat:at_+size<=l.length)(hl:l.length<=maxLen)(h:Lies w B 1 A l.length (jF l)):
  Calls Tryz.prog 139 #[.slice A l.length c,.int .i64 (at_:Int),.int .i64 (size:Int),.bool true] w fun e w'=>e= .returned (.tuple #[.int .u64 (oO (JH l at_ size) size:Nat),.bool true])/\ w=w':=by
 unfold maxLen at hl;have Hw:=ah h;clear h;go_enter Tryz.func139,Tryz.ntmps139;go_wp2
 go_loop [10,11] (fun n j=>∃k:Nat,k<=size/\ j= .int .i64 k/\ n= .int .u64 (oO (JH l at_ size) k:Nat)) (fun _ i=>size-(intOf i).toNat)
 case atStart=>exact⟨0,aB _,rfl,rfl⟩
 case round=>
  obtain⟨k,hk,rfl,rfl⟩:=hrel;by_cases hlt:k<size
  · obtain⟨a,hx,rfl,hb,hc⟩:=Hw.out.DK (k:=at_+size-1-k) (by omega)
    have hb8:=Wu l[at_+size-1-k];have s0:=IG (JH l at_ size) k (by omega) _ (aao l at_ size k hx);have s1:=EW (JH l at_ size) k (by omega);go_wp2
    go_round
    case rel=>exact⟨k+1,by omega,by go_num,rfl⟩
    case measure=>simp [intOf];omega
  · obtain rfl:k=size:=by omega
    go_wp2
    go_ret2
    exact⟨rfl,rfl⟩
theorem O8(A:Option Addr)(n c size:Nat)(at_:Int)(low:Bool)(w:World)(hat:at_<0∨(n:Int)-size<at_)(hs:size<=8)(hl:n<=maxLen):
   Calls Tryz.prog 139 #[.slice A n c,.int .i64 at_,.int .i64 (size:Int),.bool low] w fun e w'=>e= .returned (.tuple #[.int .u64 0,.bool false])/\ w=w':=by
 unfold maxLen at hl;by_cases h0:at_<0
 · clear hat
   go_enter Tryz.func139,Tryz.ntmps139;go_wp2
   go_ret2
   exact⟨rfl,rfl⟩
 · have h1:(n:Int)-size<at_:=by omega
   clear hat;by_cases h2:n<size
   · go_enter Tryz.func139,Tryz.ntmps139
     go_wp2
     go_ret2
     exact⟨rfl,rfl⟩
   · go_enter Tryz.func139,Tryz.ntmps139
     go_wp2
     go_ret2
     exact⟨rfl,rfl⟩
def rG(n:Nat)(at_:Int)(size:Nat):Bool:=decide (0<=at_/\ at_+size<=n)
def numOf(l:List UInt8)(at_:Int)(size:Nat)(low:Bool):Nat:=
 if 0<=at_/\ at_+size<=l.length then(if low then oO (JH l at_.toNat size) size else oO (KT l at_.toNat) size)else 0
theorem O9(l:List UInt8)(A:Option Addr)(c B:Nat)(at_:Int)(size:Nat)(low:Bool)(hs:size<=8)(w:World)(hl:l.length<=maxLen)(h:Lies w B 1 A l.length (jF l)):
   Calls Tryz.prog 139 #[.slice A l.length c,.int .i64 at_,.int .i64 (size:Int),.bool low] w fun e w'=>e= .returned (.tuple #[.int .u64 (numOf l at_ size low:Nat),.bool (rG l.length at_ size)])/\ w=w':=by
 by_cases hin:0<=at_/\ at_+size<=l.length
 · obtain⟨k,rfl⟩:=au hin.1
   have e1:rG l.length (k:Int) size=true:=(by simp only [rG,decide_eq_true_eq];exact hin);cases low
   · have e2:numOf l (k:Int) size false=oO (KT l k) size:=by rw [numOf,if_pos hin];rfl
     rw [e1,e2];exact LH l A c B k size hs w (by omega) hl h
   · have e2:numOf l (k:Int) size true=oO (JH l k size) size:=by rw [numOf,if_pos hin];rfl
     rw [e1,e2];exact O7 l A c B k size hs w (by omega) hl h
 · have e1:rG l.length at_ size=false:=by simp only [rG,decide_eq_false_iff_not];exact hin
   have e2:numOf l at_ size low=0:=(by rw [numOf,if_neg hin]);rw [e1,e2];exact O8 A l.length c size at_ low w (by omega) hs hl
theorem Pg(l:List UInt8)(A:Option Addr)(c B:Nat)(at_:Int)(low:Bool)(w:World)(hl:l.length<=maxLen)(h:Lies w B 1 A l.length (jF l)):
   Calls Tryz.prog 188 #[.slice A l.length c,.int .i64 at_,.int .i64 (if low then 1 else 0)] w fun e w'=>e= .returned (.tuple #[.int .u32 (numOf l at_ 4 low:Nat),.bool (rG l.length at_ 4)])/\ ∃n,w'=w.drewN n:=by
 by_cases hin:0<=at_/\ at_+(4:Nat)<=l.length
 · obtain⟨k,rfl⟩:=au hin.1
   have e1:rG l.length (k:Int) 4=true:=(by simp only [rG,decide_eq_true_eq];exact hin);have e2:numOf l (k:Int) 4 low=Cb (if low then 1 else 0) 4 4294967296 (KT l k) 4:=by
    rw [numOf,if_pos hin];cases low
    · have:=TU 4 (KT l k) 4 (aj _)
      rw [Nat.sub_self,Nat.pow_zero,Nat.mul_one]at this;exact this.symm
    · have:=WE 4 (KT l k) 4 (aj _)
      refine Eq.trans ?_ this.symm;exact TS (KT l k) _ (fun j hj=>by unfold JH KT;rw [Int.toNat_natCast,show k+4-1-j=k+(4-1-j) by omega])
   rw [e1,e2];exact TR l A c B k _ (by cases low<;>simp) w (by omega) hl h
 · have e1:rG l.length at_ 4=false:=by simp only [rG,decide_eq_false_iff_not];exact hin
   have e2:numOf l at_ 4 low=0:=(by rw [numOf,if_neg hin]);rw [e1,e2];exact(O6 A l.length c at_ _ w (by omega) hl).mono fun e w' ⟨h1,h2⟩=>⟨h1,0,h2.symm⟩
theorem WG(l:List UInt8)(A:Option Addr)(c B:Nat)(at_:Int)(w:World)(hl:l.length<=maxLen)(h:Lies w B 1 A l.length (jF l)):
  Calls Tryz.prog 170 #[.slice A l.length c,.int .i64 at_] w fun e w'=>e= .returned (.tuple #[.int .u32 (numOf l at_ 4 false:Nat),.bool (rG l.length at_ 4)])/\ ∃n,w'=w.drewN n:=by
 have L:=ah (fun c' W'=>Pg l A c' B at_ false W' hl);have Hw:=ah h;clear h hl;go_enter Tryz.func170,Tryz.ntmps170;go_wp2_with(go_at_call 188;refine(L.out _ _ Hw.out).mono ?_;rintro e w' ⟨rfl,hn⟩)
 go_ret2
 exact⟨rfl,hn⟩
open Go.RowKit
abbrev Part:=Option Addr × Nat × List UInt8
def cZ(p:Part):Value:= .slice p.1 p.2.2.length p.2.1
def dQ(ps:List Part):List UInt8:=(ps.map fun p=>p.2.2).flatten
theorem LJ(ps:List Part)(k:Nat)(h:k<ps.length):dQ (ps.take (k+1))=dQ (ps.take k)++ps[k].2.2:=by
 unfold dQ;rw [aO h,List.map_append,List.flatten_append];simp
theorem xB(ps:List Part)(k:Nat):(dQ (ps.take k)).length<=(dQ ps).length:=by
 have h:dQ ps=dQ (ps.take k)++dQ (ps.drop k):=by
  unfold dQ;rw [<-List.flatten_append, <-List.map_append,List.take_append_drop]
 rw [h,List.length_append];omega
def Bytes(w:World)(l:List UInt8)(e:Ending)(w':World):Prop:=
 ∃v,e= .returned v/\ w'.ownsRow w.heap.size 5 1 v l.length (jF l)/\ Below w.heap.size w w'
theorem Ad:(Tryz.prog.info? 5).map (fun i=>(i.zero,i.size,i.bytes))=some (some (.int .u8 0),1,1):=by kernel_rfl
theorem JI(n:Nat)(hn:n<=140737488355328)(w:World):∃cur:Array Value,cur.size=n/\
  (Instr.makeSlice 78 (.int .i64 0) (.int .i64 (n:Int))).run Tryz.prog w= .ok (.slice (some ⟨w.heap.size,0,none⟩) 0 n) (w.alloc (.cells cur 5)):=by
 obtain⟨i0,hi,hz0,hz1,hz2⟩:=info_parts Ad;have h:=run_make (P:=Tryz.prog) (w:=w) 78 5 i0 (.int .u8 0) Tryz.underlying78 hi hz0 .i64 .i64 0 (n:Int) (by omega) (by omega) (by rw [hz2];omega) (by omega);simp only [Int.toNat_natCast,Int.toNat_zero,hz1]at h;exact⟨_,by simp [madeCells,Value.cells],h⟩
theorem yc(ps:List Part)(A:Option Addr)(c B:Nat)(w:World)(hB:B<=w.heap.size)(h:Lies w B 1 A ps.length (ps.map cZ))
  (hp:∀p∈ps,Lies w B 1 p.1 p.2.2.length (jF p.2.2)) (htot:(dQ ps).length<=70368744177664) (hn:ps.length<=maxLen):
  Calls Tryz.prog 112 #[.slice A ps.length c] w (Bytes w (dQ ps)):=by
 unfold maxLen at hn;obtain⟨i0,hi,hz0,hz1,hz2⟩:=info_parts Ad;have Hi:=ah (ak hi (ak hz0 (ak hz1 hz2)));clear hi hz0 hz1 hz2;have Hh:=ah h;have Hp:=ah hp;clear h hp;go_enter Tryz.func112,Tryz.ntmps112;go_wp2
 go_loop [3,11] (fun n j=>∃k:Nat,k<=ps.length/\ j= .int .i64 k/\ n= .int .i64 ((dQ (ps.take k)).length:Nat)) (fun _ i=>ps.length-(intOf i).toNat)
 case atStart=>exact⟨0,aB _,rfl,rfl⟩
 case round=>
  obtain⟨k,hk,rfl,rfl⟩:=hrel;have hle:=xB ps k;by_cases hlt:k<ps.length
  · obtain⟨a,hx,rfl,hb,hc⟩:=Hh.out.DK hlt
    have hs:(dQ (ps.take (k+1))).length=(dQ (ps.take k)).length+ps[k].2.2.length:=(by rw [LJ ps k hlt,List.length_append]);have hle2:=xB ps (k+1);have hl2:(dQ (ps.take k)).length+ps[k].2.2.length<=70368744177664:=(by omega);have Hs:=ah hs;clear hs hle2;unfold cZ at hc;go_wp2
    go_round
    case rel=>exact⟨k+1,by omega,by go_num,by rw [Hs.out];go_num⟩
    case measure=>simp [intOf];omega
  · obtain rfl:k=ps.length:=by omega
    obtain⟨cur,hcur,hmk⟩:=JI (dQ ps).length (by omega) w;have WH:=ah hcur;clear hcur;rw [List.take_length]at*;have hpo:=ah hlt;clear hlt hle;go_wp2
    obtain⟨W0,hW0⟩:=aqx (w.alloc (.cells cur 5));have hown0:W0.ownsRow w.heap.size 5 1 (.slice (some ⟨w.heap.size,0,none⟩) 0 (dQ ps).length) 0 (jF []):=by
     rw [hW0];exact World.ownsRow_made w cur _ (aj _) (by unfold maxLen;omega) (by rw [WH.out,Nat.mul_one])
    have hbel0:Below w.heap.size w W0:=(by rw [hW0];exact(aC _ _).alloc (aj _) _);rw [<-hW0];clear hW0 hmk;go_loopw [6,24] (fun v j W=>∃k:Nat,k<=ps.length/\ j= .int .i64 k/\ W.ownsRow w.heap.size 5 1 v (dQ (ps.take k)).length (jF (dQ (ps.take k)))/\ Below w.heap.size w W) (fun _ i _=>ps.length-(intOf i).toNat)
    case atStart=>exact⟨0,aB _,rfl,hown0,hbel0⟩
    case round=>
     obtain⟨k,hk,rfl,hown,hbel⟩:=hrel;have EX:=ah hown;have lK:=ah hbel;clear hown0 hbel0 hown hbel;by_cases hlt:k<ps.length
     · obtain⟨a,hx,rfl,hb,hc⟩:=((Hh.out.wide hB).below lK.out).DK hlt
       have hs:(dQ (ps.take (k+1)))=(dQ (ps.take k))++ps[k].2.2:=LJ ps k hlt;have hle2:=xB ps (k+1);have hl2:(dQ (ps.take k)).length+ps[k].2.2.length<=70368744177664:=(by rw [hs,List.length_append]at hle2;omega);have hr:=((Hp.out _ (ay hx)).wide hB).below lK.out;have Hs:=ah hs;have Hr:=ah hr;clear hs hle2 hr;unfold cZ at hc;obtain⟨hi,hz0,hz1,hz2⟩:=Hi.out;have hfin:∀v' w',w'.ownsRow w.heap.size 5 1 v' ((dQ (ps.take k)).length+ps[k].2.2.length) (jF (dQ (ps.take k))++jF ps[k].2.2)->wr.grownBy w' u6.ownBlock->Below w.heap.size w w'/\ w'.ownsRow w.heap.size 5 1 v' (dQ (ps.take (k+1))).length (jF (dQ (ps.take (k+1)))):=by
        intro v' w' h1 h2;refine⟨lK.out.grown h2 lK.out.size (fun g hg=>(EX.out.lt g hg).1), ?_⟩;rw [Hs.out,List.length_append, <-vS];exact h1
       go_wp2_with(at_builtin;refine qC rfl (.tmp 28) (.tmp 29) 78 rfl w.heap.size 5 i0 (.int .u8 0) 1 Tryz.underlying78 hi hz0 hz1 hz2 rfl _ _ _ rfl EX.out _ _ _ _ _ rfl Hr.out (x9 _) (by unfold maxLen;omega) (by omega) lK.out.size ?_;intro v' w' h1 h2 h3)
       obtain⟨f1,f2⟩:=hfin v' w' h1 h2;clear hfin hi hz0 hz1 hz2 h1 h2 h3;go_roundw
       case rel=>exact⟨k+1,by omega,by go_num,f2,f1⟩
       case measure=>simp [intOf];omega
     · obtain rfl:k=ps.length:=by omega
       go_wp2
       go_ret;have h1:=EX.out;rw [List.take_length]at h1;exact⟨_,rfl,h1,lK.out⟩
open Go.RowKit
def jQ(o:Int)(m:Nat)(n i:Nat):UInt8:=UInt8.ofNat (n/2^ (vU o i m).toNat% 256)
def pU(o:Int)(m:Nat)(n:Nat):List UInt8:=(List.range m).map (jQ o m n)
def gY(o:Int)(m:Nat)(ns:List Nat):List UInt8:=(ns.map (pU o m)).flatten
theorem DN(o:Int)(m:Nat)(ns:List Nat)(k:Nat)(h:k<ns.length):gY o m (ns.take (k+1))=gY o m (ns.take k)++pU o m ns[k]:=by
 unfold gY;rw [aO h,List.map_append,List.flatten_append];simp
theorem wL(o:Int)(m n:Nat):(pU o m n).length=m:=by simp [pU]
theorem yM(o:Int)(m:Nat)(ns:List Nat):(gY o m ns).length=m*ns.length:=by
 induction ns with
 |nil=>simp [gY]
 |cons n ns ih=>
  have:gY o m (n::ns)=pU o m n++gY o m ns:=(by simp [gY]);rw [this,List.length_append,ih,wL,List.length_cons,Nat.mul_succ,Nat.add_comm]
def gK(o:Int)(m n j:Nat):List UInt8:=(List.range j).map (jQ o m n)
theorem rH(o:Int)(m n j:Nat):gK o m n (j+1)=gK o m n j++ [jQ o m n j]:=by
 unfold gK;rw [List.range_succ,List.map_append];rfl
theorem oN(n:Nat):((UInt8.ofNat (n% 256)).toNat:Int)=((n% 256:Nat):Int):=by
 rw [UInt8.toNat_ofNat'];omega
def Ph(xs:List Nat):List Value:=xs.map fun(x:Nat)=>Value.int .u32 (x:Int)
theorem Pj(o:Int)(n i:Nat)(ho:o=0∨o=1)(hi:i<4):
  IntKind.u8.wrap ((n:Int)/2^min (vU o i 4).toNat 32)=((jQ o 4 n i).toNat:Int):=by
 have hs:(vU o i 4).toNat<=32:=by rcases ho with rfl|rfl<;>simp only [uY,qF]<;>omega
 rw [Nat.min_eq_left hs,jQ,oN,IntKind.wrap_u8];simp
theorem TV(b:List UInt8)(ns:List Nat)(hns:∀n∈ns,n<4294967296)(A D:Option Addr)(c d B:Nat)(o:Int)(ho:o=0∨o=1)(w:World)(hB:B<=w.heap.size)
  (hb:Lies w B 1 A b.length (jF b)) (hl:Lies w B 1 D ns.length (Ph ns)) (htot:b.length+4*ns.length<=70368744177664):
  Calls Tryz.prog 149 #[.slice A b.length c,.slice D ns.length d,.int .i64 o] w (Bytes w (b++gY o 4 ns)):=by
 obtain⟨i0,hi,hz0,hz1,hz2⟩:=info_parts Ad;have Hi:=ah (ak hi (ak hz0 (ak hz1 hz2)));have HO:=ah ho;have Hb:=ah hb;have Hl:=ah hl;have Hns:=ah hns;clear hi hz0 hz1 hz2 hb hl ho hns;obtain⟨cur,hcur,hmk⟩:=JI (4*ns.length) (by omega) w;have WH:=ah hcur;clear hcur;have hmul:((4*ns.length:Nat):Int)=4*(ns.length:Int):=(by omega);rw [hmul]at hmk;clear hmul;go_enter Tryz.func149,Tryz.ntmps149;go_wp2_with(go_at_call 178;refine(vT _).mono ?_;rintro e w' ⟨rfl,rfl⟩)
 obtain⟨W0,hW0⟩:=aqx (w.alloc (.cells cur 5));have hown0:W0.ownsRow w.heap.size 5 1 (.slice (some ⟨w.heap.size,0,none⟩) 0 (4*ns.length)) 0 (jF []):=by
  rw [hW0];exact World.ownsRow_made w cur _ (aj _) (by unfold maxLen;omega) (by rw [WH.out,Nat.mul_one])
 have hbel0:Below w.heap.size w W0:=(by rw [hW0];exact(aC _ _).alloc (aj _) _);rw [<-hW0];clear hW0 hmk;go_loopw [8,20] (fun v j W=>∃k:Nat,k<=ns.length/\ j= .int .i64 k/\ W.ownsRow w.heap.size 5 1 v (4*k) (jF (gY o 4 (ns.take k)))/\ Below w.heap.size w W) (fun _ i _=>ns.length-(intOf i).toNat)
 case atStart=>exact⟨0,aB _,rfl,hown0,hbel0⟩
 case round=>
  obtain⟨k,hk,rfl,hown,hbel⟩:=hrel;have EX:=ah hown;have lK:=ah hbel;clear hown0 hbel0 hown hbel;by_cases hlt:k<ns.length
  · obtain⟨a,hx,rfl,hab,hc⟩:=((Hl.out.wide hB).below lK.out).DK hlt
    have hnb:=Hns.out _ (ay hx);go_wp2
    obtain⟨wo,rfl⟩:=aqx wr;go_loopw [8,25] (fun v j W=>∃i:Nat,i<=4/\ j= .int .i64 i/\ W.ownsRow w.heap.size 5 1 v (4*k+i) (jF (gY o 4 (ns.take k)++gK o 4 ns[k] i))/\ Below w.heap.size w W) (fun _ i _=>4-(intOf i).toNat)
    case atStart=>exact⟨0,aB _,rfl,by simpa [gK]using EX.out,lK.out⟩
    case round=>
     obtain⟨i,hi,rfl,hown,hbel⟩:=hrel;have uz:=ah hown;have sV:=ah hbel;clear hown hbel EX lK hc;by_cases hlt2:i<4
     · have hsh:=Pj o ns[k] i HO.out hlt2
       have s5:0<=vU o i 4:=by rcases HO.out with rfl|rfl<;>simp only [uY,qF]<;>omega
       obtain⟨hi0,hz0,hz1,hz2⟩:=Hi.out;have hfin:∀ (W1:World) v' w',W1.heap.size=wr.heap.size+1->Below w.heap.size w W1->w'.ownsRow w.heap.size 5 1 v' (4*k+i+1) (jF (gY o 4 (ns.take k)++gK o 4 ns[k] i)++jF [jQ o 4 ns[k] i])->W1.grownBy w' u8.ownBlock->Below w.heap.size w w'/\ w'.ownsRow w.heap.size 5 1 v' (4*k+(i+1)) (jF (gY o 4 (ns.take k)++gK o 4 ns[k] (i+1))):=by
         intro W1 v' w' hsz h0 h1 h2;refine⟨h0.grown h2 (by have:=sV.out.size;omega) (fun g hg=>(uz.out.lt g hg).1), ?_⟩;rw [rH, <-List.append_assoc, <-vS];exact h1
       have ZY:=ah sV.out.size;go_wp2_with(first
         |(go_at_call 179;refine(BZ _ _ _ HO.out (by omega) (by omega) (by omega) _).mono ?_;rintro e w' ⟨rfl,rfl⟩)
         |(at_builtin;refine qC rfl (.tmp 28) (.tmp 36) 78 rfl w.heap.size 5 i0 (.int .u8 0) 1 Tryz.underlying78 hi0 hz0 hz1 hz2 rfl _ _ _ rfl (uz.out.alloc _) _ _ _ _ (jF [jQ o 4 ns[k] i]) rfl (jC _ _ _ _ _ rfl rfl) (x9 _) (by unfold maxLen;omega) (by omega) (by have:=ZY.out;simp;omega) ?_;intro v' w' h1 h2 h3))
       obtain⟨f1,f2⟩:=hfin _ v' w' (by simp) (sV.out.alloc ZY.out _) h1 h2;clear hfin hi0 hz0 hz1 hz2 h1 h2 h3 hsh s5;go_roundw
       case rel=>exact⟨i+1,by omega,by go_num,f2,f1⟩
       case measure=>simp [intOf];omega
     · obtain rfl:i=4:=by omega
       have hown3:wr.ownsRow w.heap.size 5 1 u8 (4*(k+1)) (jF (gY o 4 (ns.take (k+1)))):=(by rw [DN _ _ _ _ hx];exact uz.out);have WI:=ah hown3;clear hown3;go_wp2
       go_roundw
       case rel=>exact⟨k+1,by omega,by go_num,WI.out,sV.out⟩
       case measure=>simp [intOf];omega
  · obtain rfl:k=ns.length:=by omega
    have h1:=EX.out;rw [List.take_length]at h1;obtain⟨E,c2,rfl,hl2⟩:=IB h1;have uz:=ah h1;have Hl2:=ah hl2;clear h1 hl2;have hlen:(gY o 4 ns).length=4*ns.length:=yM _ _ _;have L:∀W1,wr.heap.size<=W1.heap.size->Below wr.heap.size wr W1->∀P,Lies W1 (W1.heap.size) 1 P 2 ([(A,c,b),(E,c2,gY o 4 ns)].map cZ)->∀c3,Calls Tryz.prog 112 #[.slice P 2 c3] W1 (Bytes W1 (b++gY o 4 ns)):=by
     intro W1 hs1 hb1 P hP c3;have hc:=yc [(A,c,b),(E,c2,gY o 4 ns)] P c3 W1.heap.size W1 (aj _) hP (by
       intro p hp;simp only [List.mem_cons,List.not_mem_nil,or_false]at hp;rcases hp with rfl|rfl
       · exact(((Hb.out.wide hB).below lK.out).wide lK.out.size).below hb1|>.wide hs1
       · rw [<-hlen]at Hl2;exact(Hl2.out.below hb1).wide hs1) (by simp [dQ,hlen];omega) (by simp [maxLen])
     simpa [dQ]using hc
    have P0:∀W1:World,Lies (W1.alloc (.cells #[.slice A b.length c,.slice E (4*ns.length) c2] 78)) (W1.alloc (.cells #[.slice A b.length c,.slice E (4*ns.length) c2] 78)).heap.size 1 (some ⟨W1.heap.size,0,none⟩) 2 ([(A,c,b),(E,c2,gY o 4 ns)].map cZ):=by
     intro W1;have:=jC W1 #[.slice A b.length c,.slice E (4*ns.length) c2] 78 2 _ rfl rfl
     simpa [cZ,hlen]using this
    have HL:=ah L;have HP:=ah P0;clear L P0 hlen;go_wp2_with(go_at_call 112;refine(HL.out _ (by simp) ((aC _ _).alloc (aj _) _) _ (HP.out _) _).mono ?_;rintro e w' ⟨v,rfl,hv1,hv2⟩)
    go_ret;have hsz:=lK.out.size;exact⟨_,rfl,iK hv1 (by simp;omega),(lK.out.alloc hsz _).trans (hv2.mono (by simp;omega))⟩
theorem Pm(o:Int)(n i:Nat)(ho:o=0∨o=1)(hi:i<8):
  IntKind.u8.wrap ((n:Int)/2^min (vU o i 8).toNat 64)=((jQ o 8 n i).toNat:Int):=by
 have hs:(vU o i 8).toNat<=64:=by rcases ho with rfl|rfl<;>simp only [uY,qF]<;>omega
 rw [Nat.min_eq_left hs,jQ,oN,IntKind.wrap_u8];simp
theorem TW(b:List UInt8)(ns:List Nat)(hns:∀n∈ns,n<18446744073709551616)(A D:Option Addr)(c d B:Nat)(o:Int)(ho:o=0∨o=1)(w:World)(hB:B<=w.heap.size)
  (hb:Lies w B 1 A b.length (jF b)) (hl:Lies w B 1 D ns.length (O1 ns)) (htot:b.length+8*ns.length<=70368744177664):
  Calls Tryz.prog 180 #[.slice A b.length c,.slice D ns.length d,.int .i64 o] w (Bytes w (b++gY o 8 ns)):=by
 obtain⟨i0,hi,hz0,hz1,hz2⟩:=info_parts Ad;have Hi:=ah (ak hi (ak hz0 (ak hz1 hz2)));have HO:=ah ho;have Hb:=ah hb;have Hl:=ah hl;have Hns:=ah hns;clear hi hz0 hz1 hz2 hb hl ho hns;obtain⟨cur,hcur,hmk⟩:=JI (8*ns.length) (by omega) w;have WH:=ah hcur;clear hcur;have hmul:((8*ns.length:Nat):Int)=8*(ns.length:Int):=(by omega);rw [hmul]at hmk;clear hmul;go_enter Tryz.func180,Tryz.ntmps180;go_wp2_with(go_at_call 190;refine(O5 _).mono ?_;rintro e w' ⟨rfl,rfl⟩)
 obtain⟨W0,hW0⟩:=aqx (w.alloc (.cells cur 5));have hown0:W0.ownsRow w.heap.size 5 1 (.slice (some ⟨w.heap.size,0,none⟩) 0 (8*ns.length)) 0 (jF []):=by
  rw [hW0];exact World.ownsRow_made w cur _ (aj _) (by unfold maxLen;omega) (by rw [WH.out,Nat.mul_one])
 have hbel0:Below w.heap.size w W0:=(by rw [hW0];exact(aC _ _).alloc (aj _) _);rw [<-hW0];clear hW0 hmk;go_loopw [8,20] (fun v j W=>∃k:Nat,k<=ns.length/\ j= .int .i64 k/\ W.ownsRow w.heap.size 5 1 v (8*k) (jF (gY o 8 (ns.take k)))/\ Below w.heap.size w W) (fun _ i _=>ns.length-(intOf i).toNat)
 case atStart=>exact⟨0,aB _,rfl,hown0,hbel0⟩
 case round=>
  obtain⟨k,hk,rfl,hown,hbel⟩:=hrel;have EX:=ah hown;have lK:=ah hbel;clear hown0 hbel0 hown hbel;by_cases hlt:k<ns.length
  · obtain⟨a,hx,rfl,hab,hc⟩:=((Hl.out.wide hB).below lK.out).DK hlt
    have hnb:=Hns.out _ (ay hx);go_wp2
    obtain⟨wo,rfl⟩:=aqx wr;go_loopw [8,25] (fun v j W=>∃i:Nat,i<=8/\ j= .int .i64 i/\ W.ownsRow w.heap.size 5 1 v (8*k+i) (jF (gY o 8 (ns.take k)++gK o 8 ns[k] i))/\ Below w.heap.size w W) (fun _ i _=>8-(intOf i).toNat)
    case atStart=>exact⟨0,aB _,rfl,by simpa [gK]using EX.out,lK.out⟩
    case round=>
     obtain⟨i,hi,rfl,hown,hbel⟩:=hrel;have uz:=ah hown;have sV:=ah hbel;clear hown hbel EX lK hc;by_cases hlt2:i<8
     · have hsh:=Pm o ns[k] i HO.out hlt2
       have s5:0<=vU o i 8:=by rcases HO.out with rfl|rfl<;>simp only [uY,qF]<;>omega
       obtain⟨hi0,hz0,hz1,hz2⟩:=Hi.out;have hfin:∀ (W1:World) v' w',W1.heap.size=wr.heap.size+1->Below w.heap.size w W1->w'.ownsRow w.heap.size 5 1 v' (8*k+i+1) (jF (gY o 8 (ns.take k)++gK o 8 ns[k] i)++jF [jQ o 8 ns[k] i])->W1.grownBy w' u8.ownBlock->Below w.heap.size w w'/\ w'.ownsRow w.heap.size 5 1 v' (8*k+(i+1)) (jF (gY o 8 (ns.take k)++gK o 8 ns[k] (i+1))):=by
         intro W1 v' w' hsz h0 h1 h2;refine⟨h0.grown h2 (by have:=sV.out.size;omega) (fun g hg=>(uz.out.lt g hg).1), ?_⟩;rw [rH, <-List.append_assoc, <-vS];exact h1
       have ZY:=ah sV.out.size;go_wp2_with(first
         |(go_at_call 179;refine(BZ _ _ _ HO.out (by omega) (by omega) (by omega) _).mono ?_;rintro e w' ⟨rfl,rfl⟩)
         |(at_builtin;refine qC rfl (.tmp 28) (.tmp 36) 78 rfl w.heap.size 5 i0 (.int .u8 0) 1 Tryz.underlying78 hi0 hz0 hz1 hz2 rfl _ _ _ rfl (uz.out.alloc _) _ _ _ _ (jF [jQ o 8 ns[k] i]) rfl (jC _ _ _ _ _ rfl rfl) (x9 _) (by unfold maxLen;omega) (by omega) (by have:=ZY.out;simp;omega) ?_;intro v' w' h1 h2 h3))
       obtain⟨f1,f2⟩:=hfin _ v' w' (by simp) (sV.out.alloc ZY.out _) h1 h2;clear hfin hi0 hz0 hz1 hz2 h1 h2 h3 hsh s5;go_roundw
       case rel=>exact⟨i+1,by omega,by go_num,f2,f1⟩
       case measure=>simp [intOf];omega
     · obtain rfl:i=8:=by omega
       have hown3:wr.ownsRow w.heap.size 5 1 u8 (8*(k+1)) (jF (gY o 8 (ns.take (k+1)))):=(by rw [DN _ _ _ _ hx];exact uz.out);have WI:=ah hown3;clear hown3;go_wp2
       go_roundw
       case rel=>exact⟨k+1,by omega,by go_num,WI.out,sV.out⟩
       case measure=>simp [intOf];omega
  · obtain rfl:k=ns.length:=by omega
    have h1:=EX.out;rw [List.take_length]at h1;obtain⟨E,c2,rfl,hl2⟩:=IB h1;have uz:=ah h1;have Hl2:=ah hl2;clear h1 hl2;have hlen:(gY o 8 ns).length=8*ns.length:=yM _ _ _;have L:∀W1,wr.heap.size<=W1.heap.size->Below wr.heap.size wr W1->∀P,Lies W1 (W1.heap.size) 1 P 2 ([(A,c,b),(E,c2,gY o 8 ns)].map cZ)->∀c3,Calls Tryz.prog 112 #[.slice P 2 c3] W1 (Bytes W1 (b++gY o 8 ns)):=by
     intro W1 hs1 hb1 P hP c3;have hc:=yc [(A,c,b),(E,c2,gY o 8 ns)] P c3 W1.heap.size W1 (aj _) hP (by
       intro p hp;simp only [List.mem_cons,List.not_mem_nil,or_false]at hp;rcases hp with rfl|rfl
       · exact(((Hb.out.wide hB).below lK.out).wide lK.out.size).below hb1|>.wide hs1
       · rw [<-hlen]at Hl2;exact(Hl2.out.below hb1).wide hs1) (by simp [dQ,hlen];omega) (by simp [maxLen])
     simpa [dQ]using hc
    have P0:∀W1:World,Lies (W1.alloc (.cells #[.slice A b.length c,.slice E (8*ns.length) c2] 78)) (W1.alloc (.cells #[.slice A b.length c,.slice E (8*ns.length) c2] 78)).heap.size 1 (some ⟨W1.heap.size,0,none⟩) 2 ([(A,c,b),(E,c2,gY o 8 ns)].map cZ):=by
     intro W1;have:=jC W1 #[.slice A b.length c,.slice E (8*ns.length) c2] 78 2 _ rfl rfl
     simpa [cZ,hlen]using this
    have HL:=ah L;have HP:=ah P0;clear L P0 hlen;go_wp2_with(go_at_call 112;refine(HL.out _ (by simp) ((aC _ _).alloc (aj _) _) _ (HP.out _) _).mono ?_;rintro e w' ⟨v,rfl,hv1,hv2⟩)
    go_ret;have hsz:=lK.out.size;exact⟨_,rfl,iK hv1 (by simp;omega),(lK.out.alloc hsz _).trans (hv2.mono (by simp;omega))⟩
theorem LK(b:List UInt8)(ns:List Nat)(hns:∀n∈ns,n<4294967296)(A D:Option Addr)(c d B:Nat)(w:World)(hB:B<=w.heap.size)
  (hb:Lies w B 1 A b.length (jF b)) (hl:Lies w B 1 D ns.length (Ph ns)) (htot:b.length+4*ns.length<=70368744177664):
  Calls Tryz.prog 113 #[.slice A b.length c,.slice D ns.length d] w (Bytes w (b++gY 0 4 ns)):=by
 have L:=ah (TV b ns hns A D c d B 0 (by simp) w hB hb hl htot);clear hb hl hns htot;go_enter Tryz.func113,Tryz.ntmps113;go_wp2_with(go_at_call 149;refine L.out.mono ?_;rintro e w' ⟨v,rfl,hv1,hv2⟩)
 go_ret;exact⟨_,rfl,hv1,hv2⟩
theorem LM(b:List UInt8)(ns:List Nat)(hns:∀n∈ns,n<18446744073709551616)(A D:Option Addr)(c d B:Nat)(w:World)(hB:B<=w.heap.size)
  (hb:Lies w B 1 A b.length (jF b)) (hl:Lies w B 1 D ns.length (O1 ns)) (htot:b.length+8*ns.length<=70368744177664):
  Calls Tryz.prog 151 #[.slice A b.length c,.slice D ns.length d] w (Bytes w (b++gY 0 8 ns)):=by
 have L:=ah (TW b ns hns A D c d B 0 (by simp) w hB hb hl htot);clear hb hl hns htot;go_enter Tryz.func151,Tryz.ntmps151;go_wp2_with(go_at_call 180;refine L.out.mono ?_;rintro e w' ⟨v,rfl,hv1,hv2⟩)
 go_ret;exact⟨_,rfl,hv1,hv2⟩
open Go.RowKit
def Ce(low:Bool):Int:=if low then 1 else 0
theorem EY(o:Int)(m n:Nat):gK o m n m=pU o m n:=rfl
theorem WJ(n size i:Nat):(n:Int)/2^ (8*i)% 256=((jQ (Ce true) size n i).toNat:Int):=by
 have e:(vU (Ce true) (i:Int) (size:Int)).toNat=8*i:=(by show(8*(i:Int)).toNat=_;omega);rw [jQ,oN,e];simp
theorem TY(n size i:Nat)(hi:i<size):(n:Int)/2^ (8*(size-1-i))% 256=((jQ (Ce false) size n i).toNat:Int):=by
 have e:(vU (Ce false) (i:Int) (size:Int)).toNat=8*(size-1-i):=(by show(8*((size:Int)-1-i)).toNat=_;omega);rw [jQ,oN,e];simp
theorem WL(b:List UInt8)(n size:Nat)(hs:size<=8)(A:Option Addr)(c B:Nat)(low:Bool)(w:World)(hB:B<=w.heap.size)
  (hb:Lies w B 1 A b.length (jF b)) (htot:b.length<=70368744177656):
  Calls Tryz.prog 101 #[.slice A b.length c,.int .u64 (n:Int),.int .i64 (size:Int),.bool low] w (Bytes w (b++pU (Ce low) size n)):=by
 obtain⟨i0,hi,hz0,hz1,hz2⟩:=info_parts Ad;have Hi:=ah (ak hi (ak hz0 (ak hz1 hz2)));have Hb:=ah (hb.wide hB);clear hb;go_enter Tryz.func101,Tryz.ntmps101;go_wp2_with(at_builtin;(refine qC rfl (.const (.slice none 0 0)) (.tmp 12) 78 rfl w.heap.size 5 i0 (.int .u8 0) 1 Tryz.underlying78 hi hz0 hz1 hz2 rfl (.slice none 0 0) 0 [] rfl (World.ownsRow_nil _ _ _ _) _ _ _ _ _ rfl Hb.out (x9 _) (by unfold maxLen;omega) (by omega) (aj _) ?_);intro v1 w1 h1 h2 h3)
 have hown0:w1.ownsRow w.heap.size 5 1 v1 (b.length+0) (jF (b++gK (Ce low) size n 0)):=by
  simpa [gK]using h1
 have hbel0:Below w.heap.size w w1:=(aC _ _).grown h2 (aj _) (by simp [Value.ownBlock]);clear h1 h2 h3 hi hz0 hz1 hz2;go_loopw [9,10] (fun v j W=>∃i:Nat,i<=size/\ j= .int .i64 i/\ W.ownsRow w.heap.size 5 1 v (b.length+i) (jF (b++gK (Ce low) size n i))/\ Below w.heap.size w W) (fun _ i _=>size-(intOf i).toNat)
 case atStart=>exact⟨0,aB _,rfl,hown0,hbel0⟩
 case round=>
  obtain⟨i,hi,rfl,hown,hbel⟩:=hrel;have uz:=ah hown;have sV:=ah hbel;clear hown hbel hown0 hbel0;by_cases hlt2:i<size
  · have hfin:∀ (W1:World) v' w',W1.heap.size=wr.heap.size+1->Below w.heap.size w W1->w'.ownsRow w.heap.size 5 1 v' (b.length+i+1) (jF (b++gK (Ce low) size n i)++jF [jQ (Ce low) size n i])->W1.grownBy w' u9.ownBlock->Below w.heap.size w w'/\ w'.ownsRow w.heap.size 5 1 v' (b.length+(i+1)) (jF (b++gK (Ce low) size n (i+1))):=by
      intro W1 v' w' hsz h0 h1 h2;refine⟨h0.grown h2 (by have:=sV.out.size;omega) (fun g hg=>(uz.out.lt g hg).1), ?_⟩;rw [rH, <-List.append_assoc, <-vS];exact h1
    have ZY:=ah sV.out.size;obtain⟨hi0,hz0,hz1,hz2⟩:=Hi.out;cases low
    · have hsh:=TY n size i hlt2
      go_wp2_with(at_builtin;refine qC rfl (.tmp 26) (.tmp 32) 78 rfl w.heap.size 5 i0 (.int .u8 0) 1 Tryz.underlying78 hi0 hz0 hz1 hz2 rfl _ _ _ rfl (uz.out.alloc _) _ _ _ _ (jF [jQ (Ce false) size n i]) rfl (jC _ _ _ _ _ rfl rfl) (x9 _) (by unfold maxLen;omega) (by omega) (by have:=ZY.out;simp;omega) ?_;intro v' w' h1 h2 h3)
      obtain⟨f1,f2⟩:=hfin _ v' w' (by simp) (sV.out.alloc ZY.out _) h1 h2;clear hfin hi0 hz0 hz1 hz2 h1 h2 h3 hsh;go_roundw
      case rel=>exact⟨i+1,by omega,by go_num,f2,f1⟩
      case measure=>simp [intOf];omega
    · have hsh:=WJ n size i
      go_wp2_with(at_builtin;refine qC rfl (.tmp 26) (.tmp 32) 78 rfl w.heap.size 5 i0 (.int .u8 0) 1 Tryz.underlying78 hi0 hz0 hz1 hz2 rfl _ _ _ rfl (uz.out.alloc _) _ _ _ _ (jF [jQ (Ce true) size n i]) rfl (jC _ _ _ _ _ rfl rfl) (x9 _) (by unfold maxLen;omega) (by omega) (by have:=ZY.out;simp;omega) ?_;intro v' w' h1 h2 h3)
      obtain⟨f1,f2⟩:=hfin _ v' w' (by simp) (sV.out.alloc ZY.out _) h1 h2;clear hfin hi0 hz0 hz1 hz2 h1 h2 h3 hsh;go_roundw
      case rel=>exact⟨i+1,by omega,by go_num,f2,f1⟩
      case measure=>simp [intOf];omega
  · obtain rfl:i=size:=by omega
    go_wp2
    go_ret;have h1:=uz.out;rw [EY]at h1;exact⟨_,rfl,by simpa [wL]using h1,sV.out⟩
open Go.RowKit
def strOf(l:List UInt8):ByteArray:=⟨l.toArray⟩
open Go.RowKit
theorem fB.setAt{w:World}{g:Nat}{t:TypeId}{cs:Array Value}(h:fB w g t cs)(i:Nat)(u:Value):fB (w.setCell ⟨g,i,none⟩ u) g t (cs.setIfInBounds i u):=by
 unfold fB at h⊢;simp [World.setCell,Array.getElem?_modify,h]
theorem fB.free{w:World}{g:Nat}{t:TypeId}{cs:Array Value}(h:fB w g t cs)(i:Nat):w.frozen? ⟨g,i,none⟩=false:=by
 unfold fB at h;simp [World.frozen?,h]
section
variable {w w' : World} {g c at_ q : Nat} {A : Option Addr} {b : By}
end
section
variable {w : World} {g at_ : Nat}
end
open Go.RowKit
section
variable {w : World} {g c at_ q : Nat} {A : Option Addr} {b : By}
end
open Go.RowKit
theorem WM(l:By)(b:Nat->UInt8)(h:∀i (hi:i<l.length),b i=l[i]):val l=oO b l.length:=by
 have e:l=(List.range l.length).map b:=(List.ext_getElem (by simp) fun i h1 h2=>by simp [h i h1]);have:∀k,val ((List.range k).map b)=oO b k:=by
  intro k
  induction k with
  |zero=>rfl
  |succ k ih=>
   rw [List.range_succ,List.map_append,List.map_cons,List.map_nil,Lu,ih];rfl
 rw [<-this, <-e]
theorem Ua(l:By)(m:Nat)(h:l.length=m):numOf l 0 m false=val l:=by
 unfold numOf;rw [if_pos (by omega),if_neg (by decide), <-h];refine(WM l _ fun i hi=> ?_).symm;unfold KT;simp [hi]
section
variable {w : World} {g c at_ q : Nat} {A : Option Addr} {b : By}
end
open Go.RowKit
def Ub(qA:Nat):Nat:=if qA=1 then 10 else if qA=2 then 16 else if qA=3 then 20 else 0
def Pn(qA:Nat):Bool:=decide (1<=qA/\ qA<=3)
theorem aap{qA:Nat}(h:Pn qA=false):qA≠1/\ qA≠2/\ qA≠3:=by
 unfold Pn at h;have h:=of_decide_eq_false h;omega
theorem LP{qA:Nat}(h:Pn qA=false):Ub qA=0:=by
 obtain⟨h1,h2,h3⟩:=aap h;simp [Ub,h1,h2,h3]
theorem height_any(qA:Nat)(afb:qA<4294967296)(w:World):
   Calls Tryz.prog 171 #[.int .u32 (qA:Int)] w fun e w'=>e= .returned (.tuple #[.int .i64 ((Ub qA:Nat):Int),.bool (Pn qA)])/\ w=w':=by
 by_cases h1:qA=1
 · subst h1
   go_enter Tryz.func171,Tryz.ntmps171;go_wp2
   go_ret2
   exact⟨rfl,rfl⟩
 by_cases h2:qA=2
 · subst h2
   go_enter Tryz.func171,Tryz.ntmps171;go_wp2
   go_ret2
   exact⟨rfl,rfl⟩
 by_cases h3:qA=3
 · subst h3
   go_enter Tryz.func171,Tryz.ntmps171;go_wp2
   go_ret2
   exact⟨rfl,rfl⟩
 have e1:((qA:Int)==1)=false:=(by simp;omega);have e2:((qA:Int)==2)=false:=(by simp;omega);have e3:((qA:Int)==3)=false:=(by simp;omega);have e0:Pn qA=false:=(by unfold Pn;exact decide_eq_false (by omega));rw [LP e0,e0];go_enter Tryz.func171,Tryz.ntmps171;go_wp2
 go_ret2
 exact⟨rfl,rfl⟩
theorem LQ(qA:Nat)(afb:qA<4294967296)(w:World):
   Calls Tryz.prog 140 #[.int .u32 (qA:Int)] w fun e w'=>e= .returned (.tuple #[.int .i64 ((Ub qA:Nat):Int),.bool (Pn qA)])/\ w=w':=by
 by_cases h1:qA=1
 · subst h1
   go_enter Tryz.func140,Tryz.ntmps140;go_wp2
   go_ret2
   exact⟨rfl,rfl⟩
 by_cases h2:qA=2
 · subst h2
   go_enter Tryz.func140,Tryz.ntmps140;go_wp2
   go_ret2
   exact⟨rfl,rfl⟩
 by_cases h3:qA=3
 · subst h3
   go_enter Tryz.func140,Tryz.ntmps140;go_wp2
   go_ret2
   exact⟨rfl,rfl⟩
 have e1:((qA:Int)==1)=false:=(by simp;omega);have e2:((qA:Int)==2)=false:=(by simp;omega);have e3:((qA:Int)==3)=false:=(by simp;omega);have e0:Pn qA=false:=(by unfold Pn;exact decide_eq_false (by omega));rw [LP e0,e0];go_enter Tryz.func140,Tryz.ntmps140;go_wp2
 go_ret2
 exact⟨rfl,rfl⟩
def Ij(k:By):Bool:=Pn (val (k.take 4))
def kF(k:By):Nat->UInt8:=fun i=>k.getD i 0
def zb:Nat->UInt8:=fun _=>0
theorem nV:(Tryz.prog.info? 52).map (·.size)=some 68:=by kernel_rfl
theorem Ae(w:World):(zeroValue 52).run Tryz.prog w= .ok (.agg (vec 68 (oM zb))) w:=
 (zero_of_info (P:=Tryz.prog) (t:=52) (v:= .agg (vec 68 (oM zb))) (n:=68) (by kernel_rfl)).1 w
theorem WO{w:World}{g:Nat}{t:TypeId}{k:By}(h:aU w g t 68 (oM (kF k)))(hk:k.length=68):Lies w w.heap.size 1 (some ⟨g,0,none⟩) 68 (jF k):=by
 have hl:=h.lies h.lt 0 68 (by decide);have e:((List.range 68).map fun i=>oM (kF k) (0+i))=jF k:=by
  refine List.ext_getElem (by simp [jF,hk]) fun i h1 h2=> ?_;have hi:i<k.length:=(by simp at h1;omega);simp [oM,kF,jF,hi]
 rw [e]at hl;exact hl
theorem EZ(a b:Nat->UInt8):∀k,(∀i,i<k->a i=b i)->oO a k=oO b k
 |0,_=>rfl
 |k+1,h=>by rw [oO,oO,EZ a b k (fun i hi=>h i (by omega)),h k (by omega)]
theorem Po:rG 68 0 4=true:=by decide
theorem II(k:By)(hk:k.length=68):numOf k 0 4 false=val (k.take 4):=by
 have h4:(k.take 4).length=4:=(by simp;omega);rw [<-Ua (k.take 4) 4 h4];unfold numOf;rw [if_pos (by omega),if_neg (by decide),if_pos (by omega),if_neg (by decide)];refine EZ _ _ 4 fun i hi=> ?_;unfold KT;rw [show(0:Int).toNat+i=i by simp,List.getD_eq_getElem?_getD,List.getD_eq_getElem?_getD,List.getElem?_take,if_pos hi]
theorem Uc(k:By)(hk:k.length=68)(w:World):Calls Tryz.prog 143 #[.agg (vec 68 (oM (kF k)))] w fun e w'=>e= .returned (.bool (Ij k))/\ Below w.heap.size w w':=by
 obtain⟨V,hV⟩:=aqx (w.alloc (.cells (vec 68 (oM (kF k))) 52));have h0:aU V w.heap.size 52 68 (oM (kF k)):=(by rw [hV];exact aU.new w _ _ _);have hB:Below w.heap.size w V:=(by rw [hV];exact(aC _ _).alloc (aj _) _);have hb:=WG k (some ⟨w.heap.size,0,none⟩) 68 V.heap.size 0 V (by rw [hk];decide) (by rw [hk];exact WO h0 hk);rw [hk,II k hk,Po]at hb;obtain⟨n,hn⟩:=aqx (val (k.take 4));have hn4:n<4294967296:=by
  have:=Wy (k.take 4);rw [<-hn]at this;refine aN this ?_;have:(k.take 4).length=4:=(by simp;omega);rw [this];decide
 have hko:Ij k=Pn n:=(by rw [hn];rfl);rw [hko];rw [<-hn]at hb;have HK:=ah hb;have HH:=ah (height_any n hn4);have HW:=ah hV;have HB:=ah hB;obtain⟨ht,hht⟩:=aqx (Ub n);obtain⟨is,his⟩:=aqx (Pn n);rw [<-hht, <-his]at HH;rw [<-his];clear hV h0 hB hb hn hko hht his hk;go_enter Tryz.func143,Tryz.ntmps143;go_upto_region 1 with fail
 rw [<-HW.out];clear HW;go_wp2_with(first
  |(go_at_call 170;refine HK.out.mono ?_;rintro e w1 ⟨rfl,hw⟩;have H1:=ah hw;clear hw)
  |(go_at_call 171;refine(HH.out _).mono ?_;rintro e w2 ⟨rfl,rfl⟩))
 go_ret;obtain⟨j,rfl⟩:=H1.out;exact⟨rfl,below_drewN HB.out j⟩
open Go.RowKit
def inB(n lo hi:Int):Bool:=decide (lo<=n/\ n<=hi)
theorem oq(n lo hi:Int)(w:World):Calls Tryz.prog 141 #[.int .i64 n,.int .i64 lo,.int .i64 hi] w fun e w'=>e= .returned (.bool (inB n lo hi))/\ w=w':=by
 unfold inB;by_cases h1:lo<=n
 · by_cases h2:n<=hi
   · rw [decide_eq_true (show lo<=n/\ n<=hi from⟨h1,h2⟩)]
     have d1:=decide_eq_true h1;have d2:=decide_eq_true h2;clear h1 h2;go_enter Tryz.func141,Tryz.ntmps141;go_wp2
     go_ret;exact⟨rfl,rfl⟩
   · rw [decide_eq_false (show¬ (lo<=n/\ n<=hi)from fun h=>h2 h.2)]
     have d1:=decide_eq_true h1;have d2:=decide_eq_false h2;clear h1 h2;go_enter Tryz.func141,Tryz.ntmps141;go_wp2
     go_ret;exact⟨rfl,rfl⟩
 · rw [decide_eq_false (show¬ (lo<=n/\ n<=hi)from fun h=>h1 h.1)]
   have d1:=decide_eq_false h1;clear h1;go_enter Tryz.func141,Tryz.ntmps141;go_wp2
   go_ret;exact⟨rfl,rfl⟩
theorem Ik(n:Int)(w:World):Calls Tryz.prog 107 #[.int .i64 n] w fun e w'=>e= .returned (.bool (inB n 1 16))/\ w=w':=by
 have HA:=ah (oq n 1 16);obtain⟨r,hr⟩:=aqx (inB n 1 16);rw [<-hr]at HA⊢;clear hr;go_enter Tryz.func107,Tryz.ntmps107;go_wp2_with(go_at_call 141;refine(HA.out _).mono ?_;rintro e w1 ⟨rfl,rfl⟩)
 go_ret;exact⟨rfl,rfl⟩
theorem Ed(n:Int)(w:World):Calls Tryz.prog 108 #[.int .i64 n] w fun e w'=>e= .returned (.bool (inB n 0 32))/\ w=w':=by
 have HA:=ah (oq n 0 32);obtain⟨r,hr⟩:=aqx (inB n 0 32);rw [<-hr]at HA⊢;clear hr;go_enter Tryz.func108,Tryz.ntmps108;go_wp2_with(go_at_call 141;refine(HA.out _).mono ?_;rintro e w1 ⟨rfl,rfl⟩)
 go_ret;exact⟨rfl,rfl⟩
theorem E5(n:Int)(w:World):Calls Tryz.prog 172 #[.int .i64 n] w fun e w'=>e= .returned (.bool (inB n 1 16))/\ w=w':=by
 have HA:=ah (oq n 1 16);obtain⟨r,hr⟩:=aqx (inB n 1 16);rw [<-hr]at HA⊢;clear hr;go_enter Tryz.func172,Tryz.ntmps172;go_wp2_with(go_at_call 141;refine(HA.out _).mono ?_;rintro e w1 ⟨rfl,rfl⟩)
 go_ret;exact⟨rfl,rfl⟩
theorem E8(n:Int)(w:World):Calls Tryz.prog 173 #[.int .i64 n] w fun e w'=>e= .returned (.bool (inB n 0 16))/\ w=w':=by
 have HA:=ah (oq n 0 16);obtain⟨r,hr⟩:=aqx (inB n 0 16);rw [<-hr]at HA⊢;clear hr;go_enter Tryz.func173,Tryz.ntmps173;go_wp2_with(go_at_call 141;refine(HA.out _).mono ?_;rintro e w1 ⟨rfl,rfl⟩)
 go_ret;exact⟨rfl,rfl⟩
theorem LU(n:Int)(w:World):Calls Tryz.prog 174 #[.int .i64 n] w fun e w'=>e= .returned (.bool (inB n 0 64))/\ w=w':=by
 have HA:=ah (oq n 0 64);obtain⟨r,hr⟩:=aqx (inB n 0 64);rw [<-hr]at HA⊢;clear hr;go_enter Tryz.func174,Tryz.ntmps174;go_wp2_with(go_at_call 141;refine(HA.out _).mono ?_;rintro e w1 ⟨rfl,rfl⟩)
 go_ret;exact⟨rfl,rfl⟩
theorem E9(n:Int)(w:World):Calls Tryz.prog 175 #[.int .i64 n] w fun e w'=>e= .returned (.bool (inB n 0 32))/\ w=w':=by
 have HA:=ah (oq n 0 32);obtain⟨r,hr⟩:=aqx (inB n 0 32);rw [<-hr]at HA⊢;clear hr;go_enter Tryz.func175,Tryz.ntmps175;go_wp2_with(go_at_call 141;refine(HA.out _).mono ?_;rintro e w1 ⟨rfl,rfl⟩)
 go_ret;exact⟨rfl,rfl⟩
theorem Af(n:Int)(w:World):Calls Tryz.prog 176 #[.int .i64 n] w fun e w'=>e= .returned (.bool (inB n 0 7))/\ w=w':=by
 have HA:=ah (oq n 0 7);obtain⟨r,hr⟩:=aqx (inB n 0 7);rw [<-hr]at HA⊢;clear hr;go_enter Tryz.func176,Tryz.ntmps176;go_wp2_with(go_at_call 141;refine(HA.out _).mono ?_;rintro e w1 ⟨rfl,rfl⟩)
 go_ret;exact⟨rfl,rfl⟩
theorem uN(n:Int)(w:World):Calls Tryz.prog 177 #[.int .i64 n] w fun e w'=>e= .returned (.bool (inB n 0 65535))/\ w=w':=by
 have HA:=ah (oq n 0 65535);obtain⟨r,hr⟩:=aqx (inB n 0 65535);rw [<-hr]at HA⊢;clear hr;go_enter Tryz.func177,Tryz.ntmps177;go_wp2_with(go_at_call 141;refine(HA.out _).mono ?_;rintro e w1 ⟨rfl,rfl⟩)
 go_ret;exact⟨rfl,rfl⟩
theorem aaq(n:Nat)(h:n<256):sign (UInt8.ofNat n)=(decide (97<=n)&&decide (n<=122)||decide (48<=n)&&decide (n<=57)||decide (n=45)):=by
 revert n;decide+kernel
theorem sign_eq(c:UInt8):sign c=(decide (97<=c.toNat)&&decide (c.toNat<=122)||decide (48<=c.toNat)&&decide (c.toNat<=57)||decide (c.toNat=45)):=by
 have:=aaq c.toNat c.toNat_lt
 rwa [UInt8.ofNat_toNat]at this
theorem Fa(c:UInt8):(97<=c.toNat/\ c.toNat<=122/\ sign c=true)∨(48<=c.toNat/\ c.toNat<=57/\ sign c=true)∨(c.toNat=45/\ sign c=true)∨(122<c.toNat/\ sign c=false)∨(57<c.toNat/\ c.toNat<97/\ sign c=false)∨(c.toNat<48/\ c.toNat≠45/\ sign c=false):=by
 have h:=sign_eq c;have:=c.toNat_lt;by_cases h1:97<=c.toNat
 · by_cases h2:c.toNat<=122
   · exact .inl ⟨h1,h2,by rw [h];simp [h1,h2]⟩
   · refine .inr (.inr (.inr (.inl ⟨by omega, ?_⟩)))
     rw [h];simp;omega
 · by_cases h3:48<=c.toNat
   · by_cases h4:c.toNat<=57
     · exact .inr (.inl ⟨h3,h4,by rw [h];simp [h3,h4]⟩)
     · refine .inr (.inr (.inr (.inr (.inl ⟨by omega,by omega, ?_⟩))))
       rw [h];simp;omega
   · by_cases h5:c.toNat=45
     · exact .inr (.inr (.inl ⟨h5,by rw [h];simp [h5]⟩))
     · refine .inr (.inr (.inr (.inr (.inr ⟨by omega,h5, ?_⟩))))
       rw [h];simp;omega
theorem WQ(c:UInt8)(w:World):Calls Tryz.prog 169 #[.int .u8 (c.toNat:Int)] w fun e w'=>e= .returned (.bool (sign c))/\ w=w':=by
 obtain⟨n,hn⟩:=aqx (c.toNat);have hc:=Fa c;rw [<-hn]at hc⊢;clear hn;rcases hc with⟨h1,h2,h⟩|⟨h1,h2,h⟩|⟨h1,h⟩|⟨h1,h⟩|⟨h1,h2,h⟩|⟨h1,h2,h⟩
 all_goals
   rw [h];clear h
   try subst h1
 · have d1:decide ((97:Int)<=n)=true:=by simp;omega
   have d2:decide ((n:Int)<=122)=true:=(by simp;omega);clear h1 h2;go_enter Tryz.func169,Tryz.ntmps169;go_wp2
   go_ret;exact⟨rfl,rfl⟩
 · have d1:decide ((97:Int)<=n)=false:=by simp;omega
   have d2:decide ((48:Int)<=n)=true:=(by simp;omega);have d3:decide ((n:Int)<=57)=true:=(by simp;omega);clear h1 h2;go_enter Tryz.func169,Tryz.ntmps169;go_wp2
   go_ret;exact⟨rfl,rfl⟩
 · go_enter Tryz.func169,Tryz.ntmps169
   go_wp2
   go_ret;exact⟨rfl,rfl⟩
 · have d1:decide ((97:Int)<=n)=true:=by simp;omega
   have d2:decide ((n:Int)<=122)=false:=(by simp;omega);have d3:decide ((48:Int)<=n)=true:=(by simp;omega);have d4:decide ((n:Int)<=57)=false:=(by simp;omega);have d5:((n:Int)==45)=false:=(by simp;omega);clear h1;go_enter Tryz.func169,Tryz.ntmps169;go_wp2
   go_ret;exact⟨rfl,rfl⟩
 · have d1:decide ((97:Int)<=n)=false:=by simp;omega
   have d3:decide ((48:Int)<=n)=true:=(by simp;omega);have d4:decide ((n:Int)<=57)=false:=(by simp;omega);have d5:((n:Int)==45)=false:=(by simp;omega);clear h1 h2;go_enter Tryz.func169,Tryz.ntmps169;go_wp2
   go_ret;exact⟨rfl,rfl⟩
 · have d1:decide ((97:Int)<=n)=false:=by simp;omega
   have d3:decide ((48:Int)<=n)=false:=(by simp;omega);have d5:((n:Int)==45)=false:=(by simp;omega);clear h1 h2;go_enter Tryz.func169,Tryz.ntmps169;go_wp2
   go_ret;exact⟨rfl,rfl⟩
open Go.RowKit
theorem oP(s:By):(strOf s).size=s.length:=by simp [strOf,ByteArray.size]
theorem yN(s:By)(k:Nat)(hk:k<s.length):(s.take (k+1)).all sign=((s.take k).all sign&&sign s[k]):=by
 rw [aO hk,List.all_append];simp
theorem uD(s:By)(k:Nat)(h:(s.take k).all sign=false):jD s=false:=by
 unfold jD;have:s.all sign=false:=by
  rw [<-List.take_append_drop k s,List.all_append,h];rfl
 rw [this];rfl
theorem Fb(s:By)(h:s.all sign=true):jD s=inB (s.length:Int) 1 16:=by
 unfold jD inB;rw [h,Bool.true_and, <-Bool.decide_and]
 congr 1
 simp only [eq_iff_iff];omega
theorem name_any(s:By)(hl:s.length<=1000000)(w:World):Calls Tryz.prog 142 #[.string (strOf s)] w fun e w'=>e= .returned (.bool (jD s))/\ w=w':=by
 obtain⟨S,hS⟩:=aqx (strOf s);rw [<-hS];have hsz:S.size=s.length:=(by rw [hS,oP]);have HS:=ah hS;have HZ:=ah hsz;clear hS;go_enter Tryz.func142,Tryz.ntmps142;go_wp2
 go_loopw [3,6] (fun _ j W=>∃k:Nat,k<=s.length/\ j= .int .i64 k/\ Hid ((s.take k).all sign=true)/\ w=W) (fun _ i _=>s.length-(intOf i).toNat)
 case atStart=>exact⟨0,aB _,rfl,ah (by simp),rfl⟩
 case round=>
  obtain⟨k,hk,rfl,HA,rfl⟩:=hrel;by_cases hlt:k<s.length
  · have hkI:(k:Int)< (s.length:Int):=by omega
    have DR:k<S.size:=(by omega);have hc:S[k]=s[k]:=by
      have h0:=HS.out;subst h0
      rfl
    have HG:=ah (WQ (S[k]'DR));have hall:=yN s k hlt;rw [HA.out,Bool.true_and]at hall;rw [hc]at HG;rw [<-hc]at HG;obtain⟨r,hr⟩:=aqx (sign (S[k]'DR));rw [<-hc, <-hr]at hall;rw [<-hr]at HG;clear hr hc;cases r
    · have qR:=ah (uD s (k+1) hall)
      clear hall;go_wp2_with(go_at_call 169;refine(HG.out _).mono ?_;rintro e w1 ⟨rfl,rfl⟩)
      go_ret;exact⟨by rw [qR.out];rfl,rfl⟩
    · have Fe:=ah hall
      clear hall;go_wp2_with(go_at_call 169;refine(HG.out _).mono ?_;rintro e w1 ⟨rfl,rfl⟩)
      go_roundw
      case rel=>exact⟨k+1,by omega,by go_num,Fe,trivial⟩
      case measure=>simp [intOf];omega
  · obtain rfl:k=s.length:=by omega
    have hall:=HA.out;rw [List.take_length]at hall;have HN:=ah (Fb s hall);have HAM:=ah (oq (s.length:Int) 1 16);obtain⟨r,hr⟩:=aqx (jD s);rw [<-hr]at HN;rw [<-HN.out]at HAM;have HR:=ah hr;clear hall hr hlt HN;go_wp2_with(go_at_call 141;refine(HAM.out _).mono ?_;rintro e w1 ⟨rfl,rfl⟩)
    go_ret;exact⟨by rw [<-HR.out];rfl,rfl⟩
theorem Ud(s:By)(hl:s.length<=1000000)(w:World):Calls Tryz.prog 138 #[.string (strOf s)] w fun e w'=>e= .returned (.bool (jD s))/\ w=w':=by
 obtain⟨S,hS⟩:=aqx (strOf s);rw [<-hS];have hsz:S.size=s.length:=(by rw [hS,oP]);have HS:=ah hS;have HZ:=ah hsz;clear hS;go_enter Tryz.func138,Tryz.ntmps138;go_wp2
 go_loopw [3,4] (fun j _ W=>∃k:Nat,k<=s.length/\ j= .int .i64 k/\ Hid ((s.take k).all sign=true)/\ w=W) (fun i _ _=>s.length-(intOf i).toNat)
 case atStart=>exact⟨0,aB _,rfl,ah (by simp),rfl⟩
 case round=>
  obtain⟨k,hk,rfl,HA,rfl⟩:=hrel;by_cases hlt:k<s.length
  · have hkI:(k:Int)< (s.length:Int):=by omega
    have DR:k<S.size:=(by omega);have hc:S[k]=s[k]:=by
      have h0:=HS.out;subst h0
      rfl
    have hall:=yN s k hlt;rw [HA.out,Bool.true_and, <-hc]at hall;have hcs:=Fa (S[k]'DR);clear hc;rcases hcs with⟨h1,h2,h⟩|⟨h1,h2,h⟩|⟨h1,h⟩|⟨h1,h⟩|⟨h1,h2,h⟩|⟨h1,h2,h⟩
    all_goals rw [h]at hall
    all_goals clear h
    · have da:decide ((97:Int)<=((S[k]'DR).toNat:Int))=true:=by simp;omega
      have db:decide (((S[k]'DR).toNat:Int)<=122)=true:=(by simp;omega);clear h1 h2;have Fe:=ah hall;clear hall;go_wp2_with fail
      go_roundw
      case rel=>exact⟨k+1,by omega,by go_num,Fe,trivial⟩
      case measure=>simp [intOf];omega
    · have da:decide ((97:Int)<=((S[k]'DR).toNat:Int))=false:=by simp;omega
      have dc:decide ((48:Int)<=((S[k]'DR).toNat:Int))=true:=(by simp;omega);have dd:decide (((S[k]'DR).toNat:Int)<=57)=true:=(by simp;omega);clear h1 h2;have Fe:=ah hall;clear hall;go_wp2_with fail
      go_roundw
      case rel=>exact⟨k+1,by omega,by go_num,Fe,trivial⟩
      case measure=>simp [intOf];omega
    · have da:decide ((97:Int)<=((S[k]'DR).toNat:Int))=false:=by simp;omega
      have dc:decide ((48:Int)<=((S[k]'DR).toNat:Int))=false:=(by simp;omega);have de:(((S[k]'DR).toNat:Int)==45)=true:=(by simp;omega);clear h1;have Fe:=ah hall;clear hall;go_wp2_with fail
      go_roundw
      case rel=>exact⟨k+1,by omega,by go_num,Fe,trivial⟩
      case measure=>simp [intOf];omega
    · have da:decide ((97:Int)<=((S[k]'DR).toNat:Int))=true:=by simp;omega
      have db:decide (((S[k]'DR).toNat:Int)<=122)=false:=(by simp;omega);have dc:decide ((48:Int)<=((S[k]'DR).toNat:Int))=true:=(by simp;omega);have dd:decide (((S[k]'DR).toNat:Int)<=57)=false:=(by simp;omega);have de:(((S[k]'DR).toNat:Int)==45)=false:=(by simp;omega);clear h1;have qR:=ah (uD s (k+1) hall);clear hall;go_wp2_with fail
      go_ret;exact⟨by rw [qR.out];rfl,rfl⟩
    · have da:decide ((97:Int)<=((S[k]'DR).toNat:Int))=false:=by simp;omega
      have dc:decide ((48:Int)<=((S[k]'DR).toNat:Int))=true:=(by simp;omega);have dd:decide (((S[k]'DR).toNat:Int)<=57)=false:=(by simp;omega);have de:(((S[k]'DR).toNat:Int)==45)=false:=(by simp;omega);clear h1 h2;have qR:=ah (uD s (k+1) hall);clear hall;go_wp2_with fail
      go_ret;exact⟨by rw [qR.out];rfl,rfl⟩
    · have da:decide ((97:Int)<=((S[k]'DR).toNat:Int))=false:=by simp;omega
      have dc:decide ((48:Int)<=((S[k]'DR).toNat:Int))=false:=(by simp;omega);have de:(((S[k]'DR).toNat:Int)==45)=false:=(by simp;omega);clear h1 h2;have qR:=ah (uD s (k+1) hall);clear hall;go_wp2_with fail
      go_ret;exact⟨by rw [qR.out];rfl,rfl⟩
  · obtain rfl:k=s.length:=by omega
    have hall:=HA.out;rw [List.take_length]at hall;have hN:=Fb s hall;unfold inB at hN;obtain⟨r,hr⟩:=aqx (jD s);rw [<-hr]at hN;have HR:=ah hr;clear hall hr hlt;by_cases h1:1<=s.length
    · by_cases h2:s.length<=16
      · obtain rfl:r=true:=by rw [hN];simp;omega
        have d1:decide ((1:Int)<=(s.length:Int))=true:=(by simp;omega);have d2:decide ((s.length:Int)<=16)=true:=(by simp;omega);clear h1 h2 hN;go_wp2_with fail
        go_ret;exact⟨by rw [<-HR.out];rfl,rfl⟩
      · obtain rfl:r=false:=by rw [hN];simp;omega
        have d1:decide ((1:Int)<=(s.length:Int))=true:=(by simp;omega);have d2:decide ((s.length:Int)<=16)=false:=(by simp;omega);clear h1 h2 hN;go_wp2_with fail
        go_ret;exact⟨by rw [<-HR.out];rfl,rfl⟩
    · obtain rfl:r=false:=by rw [hN];simp;omega
      have d1:decide ((1:Int)<=(s.length:Int))=false:=(by simp;omega);clear h1 hN;go_wp2_with fail
      go_ret;exact⟨by rw [<-HR.out];rfl,rfl⟩
open Go.RowKit
structure Trim(l:By)(m:Nat):Prop where
 le:m<=l.length
 zeros:∀j (h:j<l.length),m<=j->l[j]=0
 last:∀ (h:0<m),l[m-1]'(by omega)≠0
theorem Trim.drop{l:By}{m:Nat}(h:Trim l m):(l.drop m).all (fun c=>c==0)=true:=by
 rw [List.all_eq_true];intro x hx;obtain⟨j,hj,rfl⟩:=List.getElem_of_mem hx;have hj2:m+j<l.length:=(by simp at hj;omega);have:=h.zeros (m+j) hj2 (by omega);simp [this]
theorem WR:∀m n,be m n=(List.range m).map fun i=>UInt8.ofNat (n/2^ (8*(m-1-i))% 256)
 |0,_=>rfl
 |m+1,n=>by
  rw [be,WR m (n/256),List.range_succ,List.map_append,List.map_cons,List.map_nil];have e0:n/2^ (8*(m+1-1-m))% 256=n% 256:=by
   rw [show 8*(m+1-1-m)=0 by omega,Nat.pow_zero,Nat.div_one]
  rw [e0]
  congr 1
  refine List.map_congr_left fun i hi=> ?_;have hi:i<m:=List.mem_range.1 hi;rw [show 8*(m+1-1-i)=8+8*(m-1-i) by omega,Nat.pow_add, <-Nat.div_div_eq_div_mul]
open Go.RowKit
section
variable {w : World} {g c at_ q : Nat} {A : Option Addr} {b : By}
end
open Go.RowKit
attribute [local go_sem ↓ high] Ae
section
variable {P : Program} {w : World} {ops : Array Oper} {rest : List Oper} {o : Oper} {a : Act} {Q : Exit -> Act -> World -> Prop}
theorem aW{n:Nat}{f:Nat->Value}{p:Addr}{ty:TypeId}{d:TypeDesc}(h:∀i,i<n->w.cell? (p.add i)=some (f i))(hu:P.underlying ty=some d)
  (hd:(match d with| .struct _| .array _ _=>true|_=>false)=true) (hi:(P.info? ty).map (·.size)=some n):
  (loadVar ty p).run P w= .ok (.agg (vec n f)) w:=by
 have hl:(loadCells p (vec n f).toList.length).run P w= .ok (vec n f).toList.toArray w:=
  run_loadCells_list (P:=P) w p (vec n f).toList (fun j v hv=>by
   have hj:j<n:=by
    have:=(List.getElem?_eq_some_iff.1 hv).1
    simpa [vec]using this
   have hv2:(vec n f)[j]?=some v:=(by simpa using hv);rw [ES n f j hj]at hv2;rw [h j hj,hv2])
 cases hq:P.info? ty with
 |none=>simp [hq]at hi
 |some i=>
  have hs:i.size=n:=(by simpa [hq]using hi);have hagg:(isAgg ty).run P w= .ok true w:=by
   unfold isAgg;rw [Sem.run_bind,run_underlying hu w];cases d<;>simp_all
  have hz:(vec n f).size=n:=iR n f;simp only [Array.length_toList,Array.toArray_toList]at hl;rw [hz]at hl;simp [loadVar,Sem.run_bind,hagg,sizeOf,typeInfo,hq,hs,hl]
theorem dI(ty:TypeId)(x:Operand)(ho:o.op= .load ty x)(p:Addr)(hx:a.eval x= .pointer (some p))(v:Value)
  (hl:(loadVar ty p).run P w= .ok v w):(execOp a.eval o).run P w= .ok (.value v) w:=by
 unfold execOp;simp only [ho,hx,Instr.loadAt,Instr.sureAddr,Sem.run_bind,Sem.run_pure,Result.andThen_ok,hl]
theorem bC(hgd:o.guard=none)(ty:TypeId)(x:Operand)(ho:o.op= .load ty x)(p:Addr)(hx:a.eval x= .pointer (some p))(v:Value)
  (hl:(loadVar ty p).run P w= .ok v w) (h:wpList P ops Q rest (a.put o.dst v) w):wpList P ops Q (o::rest) a w:=
 wpList_plain hgd fun _ hK=>by
  unfold Oper.wp;rw [dI ty x ho p hx v hl];exact hK _ _ h
end
theorem Save.on{g n:Nat}{V Y Z:World}(h:Save g V Y)(hd:Below n Y Z)(hn:V.heap.size<=n):Save g V Z:=
 ⟨hd.os.trans h.os,hd.tape.trans h.tape,hd.output.trans h.output,aA h.size hd.size,fun k hk hkr=>(hd.block k (by omega)).trans (h.block k hk hkr)⟩
theorem Save.left{g:Nat}{w V W:World}(h1:Below w.heap.size w V)(h2:Save g V W):Save g w W:=⟨h2.os.trans h1.os,h2.tape.trans h1.tape,h2.output.trans h1.output,aA h1.size h2.size,fun k hk hg=>(h2.block k (aN hk h1.size) hg).trans (h1.block k hk)⟩
open Go.RowKit
def bG(x:Wi):Nat->Value
 |0=> .int .u64 x.fZ
 |1=> .int .u64 x.pa
 |2=> .int .u64 x.size
 |_=> .int .i64 x.perm
def iC(x:De):Nat->Value
 |0=> .int .u64 x.fZ
 |1=> .int .u64 x.pa
 |_=> .int .u64 x.size
def dV(x:Ir):Nat->Value
 |0=> .int .i64 x.number
 |1=> .int .i64 x.cpu
 |_=> .bool x.edge
def dY(x:En):Nat->Value
 |0=> .int .i64 x.bK
 |1=> .int .i64 x.perm
 |_=> .int .u64 x.fZ
def kJ(x:Ch):Nat->Value
 |0=> .int .u64 x.pa
 |1=> .int .u64 x.size
 |i+2=>if i<3 then dY x.a i else dY x.b (i-3)
def yG(a b:En):Nat->Value:=fun i=>if i<3 then dY a i else dY b (i-3)
def mP(x:Int):Nat->Value:=fun _=> .int .u32 x
theorem mZ(x:Wi)(n:Nat):∀i,i<n->(bG x i).oneCell'=true:=by
 intro i _;match i with|0=>rfl|1=>rfl|2=>rfl|_+3=>rfl
theorem xC(x:De)(n:Nat):∀i,i<n->(iC x i).oneCell'=true:=by
 intro i _;match i with|0=>rfl|1=>rfl|_+2=>rfl
theorem Fg(x:Ir)(n:Nat):∀i,i<n->(dV x i).oneCell'=true:=by
 intro i _;match i with|0=>rfl|1=>rfl|_+2=>rfl
theorem lM(x:En)(n:Nat):∀i,i<n->(dY x i).oneCell'=true:=by
 intro i _;match i with|0=>rfl|1=>rfl|_+2=>rfl
theorem vV(x:Ch)(n:Nat):∀i,i<n->(kJ x i).oneCell'=true:=by
 intro i _
 match i with
 |0=>rfl
 |1=>rfl
 |i+2=>
  show(if i<3 then dY x.a i else dY x.b (i-3)).oneCell'=true
  split
  · exact lM x.a (i+1) i (Nat.lt_succ_self _)
  · exact lM x.b (i-3+1) (i-3) (Nat.lt_succ_self _)
def JJ:Wi:=⟨0,0,0,0⟩
def zDe:De:=⟨0,0,0⟩
def zIr:Ir:=⟨0,0,false⟩
def Ue:En:=⟨0,0,0⟩
def Uf:Ch:=⟨0,0,Ue,Ue⟩
theorem gQ:(Tryz.prog.info? 67).map (·.size)=some 4:=by kernel_rfl
theorem qG:(Tryz.prog.info? 83).map (·.size)=some 3:=by kernel_rfl
theorem rJ:(Tryz.prog.info? 65).map (·.size)=some 3:=by kernel_rfl
theorem nX:(Tryz.prog.info? 44).map (·.size)=some 3:=by kernel_rfl
theorem nJ:(Tryz.prog.info? 47).map (·.size)=some 8:=by kernel_rfl
theorem oU(w:World):(zeroValue 67).run Tryz.prog w= .ok (.agg (vec 4 (bG JJ))) w:=
 (zero_of_info (P:=Tryz.prog) (t:=67) (v:= .agg (vec 4 (bG JJ))) (n:=4) (by kernel_rfl)).1 w
theorem zq(w:World):(zeroValue 83).run Tryz.prog w= .ok (.agg (vec 3 (iC zDe))) w:=
 (zero_of_info (P:=Tryz.prog) (t:=83) (v:= .agg (vec 3 (iC zDe))) (n:=3) (by kernel_rfl)).1 w
theorem xE(w:World):(zeroValue 65).run Tryz.prog w= .ok (.agg (vec 3 (dV zIr))) w:=
 (zero_of_info (P:=Tryz.prog) (t:=65) (v:= .agg (vec 3 (dV zIr))) (n:=3) (by kernel_rfl)).1 w
theorem zu(w:World):(zeroValue 44).run Tryz.prog w= .ok (.agg (vec 3 (dY Ue))) w:=
 (zero_of_info (P:=Tryz.prog) (t:=44) (v:= .agg (vec 3 (dY Ue))) (n:=3) (by kernel_rfl)).1 w
theorem sW(w:World):(zeroValue 47).run Tryz.prog w= .ok (.agg (vec 8 (kJ Uf))) w:=
 (zero_of_info (P:=Tryz.prog) (t:=47) (v:= .agg (vec 8 (kJ Uf))) (n:=8) (by kernel_rfl)).1 w
section
variable {α β : Type} {b : By} {p q r : Nat} {e : Nat × Nat}
end
open Go.RowKit
open Go.RowKit
open Go.RowKit
attribute [local go_sem ↓ high] oU zq xE zu sW
open Go.RowKit
def uZ(ts:Array TypeId)(ty:TypeId)(vs:Array Value):Sem Value:=Builtin.append_ ts ty vs
theorem gZ(ats:Array TypeId)(ty:TypeId)(cs:Array Bool)(args:Array Value):builtin .append ats ty cs args=(do pure (.value (<-uZ ats ty args))):=rfl
section
variable {α : Type} {n : Nat} {enc : α -> Nat -> Value} {w w' : World} {base : Nat} {t : TypeId} {v : Value} {l : List α}
def gW(t:TypeId)(n:Nat)(enc:α->Nat->Value)(w:World)(base:Nat)(v:Value)(l:List α):Prop:=w.ownsRow base t n v l.length (cellsE n enc l)
theorem gW.nil(w:World)(base:Nat):gW t n enc w base (.slice none 0 0) []:=World.ownsRow_nil _ _ _ _
theorem gW.save{g:Nat}(h:gW t n enc w base v l)(hs:Save g w w')(hg:g<base):gW t n enc w' base v l:=by
 refine⟨h.1, ?_⟩;rcases h.2 with h2|⟨k,cap,cur,hv,hk,hh,r⟩
 · exact Or.inl h2
 · exact Or.inr ⟨k,cap,cur,hv,hk,(hs.block k (Array.getElem?_eq_some_iff.1 hh).1 (by omega)).trans hh,r⟩
theorem gW.on{m:Nat}(h:gW t n enc w base v l)(hs:Below m w w')(hm:w.heap.size<=m):gW t n enc w' base v l:=by
 refine⟨h.1, ?_⟩;rcases h.2 with h2|⟨k,cap,cur,hv,hk,hh,r⟩
 · exact Or.inl h2
 · exact Or.inr ⟨k,cap,cur,hv,hk,(hs.block k (aN (Array.getElem?_eq_some_iff.1 hh).1 hm)).trans hh,r⟩
theorem gW.low{base':Nat}(h:gW t n enc w base v l)(hb:base'<=base):gW t n enc w base' v l:=by
 refine⟨h.1, ?_⟩;rcases h.2 with h2|⟨g,cap,cur,hv,hg,r⟩
 · exact Or.inl h2
 · exact Or.inr ⟨g,cap,cur,hv,aA hb hg,r⟩
theorem gW.form(h:gW t n enc w base v l):∃A c,v= .slice A l.length c/\ l.length<=c/\ bI n enc w w.heap.size A l/\ ∀k,v.ownBlock=some k->base<=k/\ k<w.heap.size:=by
 rcases h.2 with⟨rfl,h0⟩|⟨g,cap,cur,rfl,hg,hh,hnc,hr⟩
 · have:l=[]:=List.eq_nil_of_length_eq_zero h0
   subst this;exact⟨none,0,rfl,aj _,bI.nil _ _ _,fun k hk=>by simp [Value.ownBlock]at hk⟩
 · refine⟨_,cap,rfl,hnc,fun _=>⟨_,rfl,(Array.getElem?_eq_some_iff.1 hh).1,fun j hj i hi=> ?_⟩,fun k hk=>by
    simp [Value.ownBlock]at hk;subst hk;exact⟨hg,(Array.getElem?_eq_some_iff.1 hh).1⟩⟩
   obtain⟨q1,e1⟩:=List.getElem?_eq_some_iff.1 (nT (enc:=enc) l j hj i hi);exact(h.cells (g:=g) rfl (j*n+i) _ (aF q1)).trans (by rw [e1])
theorem Rz(w:World)(f:Nat->Value)(t:TypeId)(n:Nat):∀j u,(VZ n f)[j]?=some u->(w.alloc (.cells (vec n f) t)).cell? ((⟨w.heap.size,0,none⟩:Addr).add j)=some u:=by
 intro j u hu;have e:((⟨w.heap.size,0,none⟩:Addr).add j)=⟨w.heap.size,j,none⟩:=(by unfold Addr.add;by_cases h0:j=0<;>simp [h0]);rw [e,cell_of_row _ w.heap.size j _ t (0,0) (heap_alloc_new w _)];rw [<-Array.getElem?_toList,Ru];exact hu
theorem abW{P:Program}{ts:TypeId}{bytes:Nat}{z:Value}(hu:P.underlying ts=some (.slice t))(hinfo:(P.info? t).map (fun i=>(i.zero,i.size,i.bytes))=some (some z,n,bytes))(hz:z.cells.size=n)(hn:0<n)
  (h1:∀ (x:α) i,i<n->(enc x i).oneCell'=true) (x:α) (hown:gW t n enc w base v l) (hb:base<=w.heap.size) (hl:l.length<=1000000) (hby:bytes<=100000) (ty:TypeId):
  ∃B d w',(uZ #[ts,ts] ty #[v,.slice (some ⟨w.heap.size,0,none⟩) 1 1]).run P (w.alloc (.cells (vec n (enc x)) t))= .ok (.slice B (l.length+1) d) w'/\ gW t n enc w' base (.slice B (l.length+1) d) (l++ [x])/\ Below base w w':=by
 obtain⟨i0,hi,hz0,hz1,hz2⟩:=info_parts hinfo;have hbz:(l.length+1)*bytes<=140737488355328:=aA (Nat.mul_le_mul (show l.length+1<=1000001 by omega) hby) (by decide);obtain⟨v',w',hr,h2,h3,_,h5⟩:=run_append_own_at (P:=P) (w.alloc (.cells (vec n (enc x)) t)) base ts ty t i0 z n bytes hu hi hz0 hz1 hz2 hz hn v l.length (cellsE n enc l) (hown.on ((aC _ _).alloc (aj _) _) (aj _))
  ⟨w.heap.size,0,none⟩ 1 1 (VZ n (enc x)) (by rw [qE,Nat.one_mul]) (Rz w (enc x) t n) (by
   intro u hu;obtain⟨i,hi,rfl⟩:=List.mem_map.1 hu;exact h1 x i (List.mem_range.1 hi)) (by unfold maxLen;omega) hbz (by simp;omega)
 have hown2:gW t n enc w' base v' (l++ [x]):=by
  unfold gW;rw [DL,List.length_append];exact h2
 obtain⟨B,d,e,_,_,hbk⟩:=hown2.form;obtain⟨_,_,_,_,_,hbv⟩:=hown.form;rw [List.length_append,List.length_singleton]at e;subst e;exact⟨B,d,w',hr,hown2,((aC base w).alloc hb _).grown h3 (by simp;omega) fun k hk=>(hbv k hk).1⟩
end
open Go.RowKit
attribute [local go_sem ↓ high] gZ
def eB(c:UInt8):Nat->Value:=fun _=> .int .u8 (c.toNat:Int)
theorem cells_one{α:Type}(f:α->Value)(l:List α):cellsE 1 (fun x _=>f x) l=l.map f:=by
 induction l with
 |nil=>rfl
 |cons x xs ih=>rw [uy,ih];rfl
theorem Eu(l:By):cellsE 1 eB l=jF l:=cells_one (fun c:UInt8=>Value.int .u8 (c.toNat:Int)) l
abbrev OwnB(w:World)(base:Nat)(v:Value)(l:By):Prop:=gW 5 1 eB w base v l
theorem bf{w:World}{base:Nat}{v:Value}{l:By}(h:w.ownsRow base 5 1 v l.length (jF l)):OwnB w base v l:=by
 show w.ownsRow base 5 1 v l.length (cellsE 1 eB l)
 rw [Eu];exact h
theorem WU{w:World}{base:Nat}{v:Value}{l:By}(h:OwnB w base v l):w.ownsRow base 5 1 v l.length (jF l):=by
 have h2:w.ownsRow base 5 1 v l.length (cellsE 1 eB l):=h;rw [Eu]at h2;exact h2
theorem bI.lies{α:Type}{enc:α->Nat->Value}{w:World}{B:Nat}{A:Option Addr}{l:List α}{xs:List Value}(h:bI 1 enc w B A l)(hx:cellsE 1 enc l=xs):Lies w B 1 A l.length xs:=by
 have hl:xs.length=l.length*1:=(by rw [<-hx,jw]);refine⟨hl,fun hn=> ?_⟩;obtain⟨a,e,hb,hc⟩:=h (fun h0=>hn (by rw [h0];rfl));refine⟨a,e,hb,fun j hj=> ?_⟩;have h1:=hc j (by omega) 0 (by decide);have h2:=nT (n:=1) (enc:=enc) l j (by omega) 0 (by decide);rw [hx,Nat.mul_one,Nat.add_zero,aF hj]at h2;rw [Nat.mul_one,Nat.add_zero]at h1;rw [h1];exact h2.symm
theorem OwnB.lies{w:World}{base:Nat}{v:Value}{l:By}(h:OwnB w base v l):∃A c,v= .slice A l.length c/\ l.length<=c/\ Lies w w.heap.size 1 A l.length (jF l):=by
 obtain⟨A,c,e,hc,hr,_⟩:=h.form;exact⟨A,c,e,hc,hr.lies (Eu l)⟩
theorem Bytes.low{w w0:World}{l:By}{e:Ending}{w':World}(h:Bytes w l e w')(hb:Below w0.heap.size w0 w):Bytes w0 l e w':=by
 obtain⟨v,e1,h1,h2⟩:=h;exact⟨v,e1,iK h1 hb.size,hb.trans (h2.mono hb.size)⟩
theorem acC(m:Nat)(h:m<65536):be 2 m=[UInt8.ofNat (m/256),UInt8.ofNat (m% 256)]:=by
 show([]++ [UInt8.ofNat (m/256% 256)])++ [UInt8.ofNat (m% 256)]=_
 rw [Nat.mod_eq_of_lt (by omega:m/256<256)];rfl
theorem Ew:(Tryz.prog.info? 5).map (fun i=>(i.zero,i.size,i.bytes))=some (some (.int .u8 0),1,1):=by kernel_rfl
theorem Ug(x y:Int)(w:World):(Instr.buildSlice 78 2 #[(0,.int .u8 x),(1,.int .u8 y)]).run Tryz.prog w= .ok (.slice (some ⟨w.heap.size,0,none⟩) 2 2) (w.alloc (.cells #[.int .u8 x,.int .u8 y] 5)):=by
 obtain⟨i0,hi,hz0,hz1,hz2⟩:=info_parts Ew;refine run_buildSlice (P:=Tryz.prog) w 78 5 2 _ _ i0 (.int .u8 0) Tryz.underlying78 hi hz0 (by rw [hz1];decide) (by rw [hz1];decide) ?_;rw [hz1]
 kernel_rfl
theorem aar{w:World}{base:Nat}{v:Value}{l:By}(x y:UInt8)(hown:OwnB w base v l)(hb:base<=w.heap.size)(hl:l.length<=1000000):
  ∃B d w',(uZ #[78,78] 78 #[v,.slice (some ⟨w.heap.size,0,none⟩) 2 2]).run Tryz.prog (w.alloc (.cells #[.int .u8 (x.toNat:Int),.int .u8 (y.toNat:Int)] 5))= .ok (.slice B (l.length+2) d) w'/\ OwnB w' base (.slice B (l.length+2) d) (l++ [x,y])/\ Below base w w':=by
 obtain⟨i0,hi,hz0,hz1,hz2⟩:=info_parts Ew;obtain⟨v',w',hr,h2,h3,_,h5⟩:=run_append_own_at (P:=Tryz.prog) (w.alloc (.cells #[.int .u8 (x.toNat:Int),.int .u8 (y.toNat:Int)] 5)) base 78 78 5 i0 (.int .u8 0) 1 1 Tryz.underlying78 hi hz0 hz1 hz2 rfl (by decide) v l.length (cellsE 1 eB l) (hown.on ((aC _ _).alloc (aj _) _) (aj _))
  ⟨w.heap.size,0,none⟩ 2 2 [.int .u8 (x.toNat:Int),.int .u8 (y.toNat:Int)] rfl (fun j u hu=>by
   have e:((⟨w.heap.size,0,none⟩:Addr).add j)=⟨w.heap.size,j,none⟩:=(by unfold Addr.add;by_cases h0:j=0<;>simp [h0]);rw [e,cell_of_row _ w.heap.size j _ 5 (0,0) (heap_alloc_new w _), <-Array.getElem?_toList];exact hu) (by
   intro u hu;simp only [List.mem_cons,List.not_mem_nil,or_false]at hu;rcases hu with rfl|rfl<;>rfl) (by unfold maxLen;omega) (by omega) (by simp;omega)
 have hown2:OwnB w' base v' (l++ [x,y]):=by
  show w'.ownsRow base 5 1 v' (l++ [x,y]).length (cellsE 1 eB (l++ [x,y]))
  rw [oJ,List.length_append];exact h2
 obtain⟨B,d,e,_,_,hbk⟩:=hown2.form;obtain⟨_,_,_,_,_,hbv⟩:=hown.form;rw [List.length_append]at e;subst e;exact⟨B,d,w',hr,hown2,((aC base w).alloc hb _).grown h3 (by simp;omega) fun k hk=>(hbv k hk).1⟩
theorem DT(m n:Nat):pU 0 m n=be m n:=by
 rw [WR];unfold pU;refine List.map_congr_left fun i hi=> ?_;have hi:i<m:=List.mem_range.1 hi;unfold jQ;rw [qF];have e:(8*((m:Int)-1-(i:Int))).toNat=8*(m-1-i):=(by omega);rw [e]
end Go.Proofs.YtkaipknkjocfiaaGreat
