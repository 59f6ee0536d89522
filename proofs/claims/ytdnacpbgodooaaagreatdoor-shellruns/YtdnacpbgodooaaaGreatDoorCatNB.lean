import Derived.Test.YtdnacpbgodooaaaGreatDoorSecA
import Derived.Test.YtdnacpbgodooaaaGreatDoorMem2
set_option maxHeartbeats 400000
namespace Go.Proofs.YtdnacpbgodooaaaGreatDoor
open Go.RowKit Go.Lib
theorem Wn (n:Nat) (w:World) (h:n<=1073741824):
  Calls Tryz.prog 96 #[.int .i64 n] w fun e w'=>e=.returned (.int .i64 (secs n))∧w'=w:=by
 unfold secs
 by_cases e:n % 24=0
 ·have e':((n:Int) % 24 != 0)=false:=by rw[bne_eq_false_iff_eq]; omega
  go_enter Tryz.func96,Tryz.ntmps96
  go_wp2
  go_ret
  exact⟨ret_int (by omega),rfl⟩
 ·have e':((n:Int) % 24 != 0)=true:=by rw[bne_iff_ne]; omega
  go_enter Tryz.func96,Tryz.ntmps96
  go_wp2
  go_ret
  exact⟨ret_int (by omega),rfl⟩
theorem ZI (n:Nat) (w:World) (h:n<=1073741824):
  Calls Tryz.prog 66 #[.int .i64 n] w fun e w'=>e=.returned (.int .i64 (secs n))∧w'=w:=by
 have h1:=Q3 n;have h2:secs n<=n:=by unfold secs; omega
 have h3:∀ i,i<secs n->24*i<n:=Z0B n;have h4:∀ i,n<=24*i->secs n<=i:=Z47 n;go_enter Tryz.func66,Tryz.ntmps66
 go_wp2_with fail
 go_loopw [3] (fun i wr=>∃ k:Nat,k<=secs n∧i=.int .i64 k∧wr=w) (fun i _=>secs n-(intOf i).toNat)
 case atStart=>exact⟨0,Nat.zero_le _,rfl,rfl⟩
 case round=>
  obtain⟨k,hk,rfl,rfl⟩:=hrel
  by_cases hlt:24*k<n
  ·have hlt':(k:Int)*24<n:=by omega
   have hk2:k<secs n:=by
    rcases Nat.lt_or_ge k (secs n) with h | h
    ·exact h
    ·omega
   go_wp2
   go_roundw
   case rel=>exact⟨k+1,hk2,by go_num,by first | rfl | trivial⟩
   case measure=>simp[intOf]; omega
  ·have hlt':¬ (k:Int)*24<n:=by omega
   have hk2:k=secs n:=by have:=h4 k (by omega); omega
   go_wp2
   go_ret
   exact⟨ret_int (by omega),rfl⟩
end Go.Proofs.YtdnacpbgodooaaaGreatDoor
namespace Go.Proofs.YtdnacpbgodooaaaGreatDoor
open Go.RowKit Go.Lib
theorem JM (c:UInt8) (w:World):
  Calls Tryz.prog 182 #[.int .u8 c.toNat] w fun e w'=>e=.returned (.bool (okB c))∧w'=w:=by
 unfold okB;have hb:(0:Int)<=c.toNat:=by omega
 generalize (c.toNat:Int)=n at hb
 by_cases h1:97<=n
 ·by_cases h2:n<=122
  ·go_enter Tryz.func182,Tryz.ntmps182
   go_wp2
   go_ret
   exact⟨Z7 (by simp[h1,h2]),rfl⟩
  ·have h3:48<=n:=by omega
   have h4:¬ n<=57:=by omega
   go_enter Tryz.func182,Tryz.ntmps182
   go_wp2
   go_ret
   exact⟨Z7 (by simp; omega),rfl⟩
 ·by_cases h3:48<=n
  ·by_cases h4:n<=57
   ·go_enter Tryz.func182,Tryz.ntmps182
    go_wp2
    go_ret
    exact⟨Z7 (by simp),rfl⟩
   ·go_enter Tryz.func182,Tryz.ntmps182
    go_wp2
    go_ret
    exact⟨Z7 (by simp; omega),rfl⟩
  ·go_enter Tryz.func182,Tryz.ntmps182
   go_wp2
   go_ret
   exact⟨Z7 (by simp; omega),rfl⟩
theorem wrap_byte (c:UInt8):wrap64 (c.toNat:Int)=(c.toNat:Int):=by
 have:=c.toNat_lt
 unfold wrap64;omega
theorem Z2A (s:ByteArray) (k:Nat) (h:k<s.size) (q:(s.data.toList.take k).all okB=true) (o:okB s[k]=true):(s.data.toList.take (k+1)).all okB=true:=by
 rw[take_snoc s k h,List.all_append,q];simp[o]
theorem Z5O (s:ByteArray) (k:Nat) (h:k<s.size) (o:okB s[k]=false):s.data.toList.all okB=false:=by
 rw[<- List.take_append_drop (k+1) s.data.toList,List.all_append,take_snoc s k h,List.all_append];simp[o]
theorem Z1Z (s:ByteArray) (h:s.size<1∨8<s.size):nameMay s=false:=by
 unfold nameMay;rw[decide_eq_false (by omega),Bool.false_and]
theorem Z4J (s:ByteArray) (h:s.data.toList.all okB=false):nameMay s=false:=by
 unfold nameMay;rw[h,Bool.and_false]
theorem Z4L (s:ByteArray) (h:s.data.toList.all okB=true):nameMay s=decide (1<=s.size∧s.size<=8):=by
 unfold nameMay;rw[h,Bool.and_true]
theorem Z1X (s:ByteArray) (w:World):
  Calls Tryz.prog 142 #[.string s] w fun e w'=>e=.returned (.bool (nameMay s))∧w'=w:=by
 by_cases h1:s.size<1
 ·have h1':(s.size:Int)<1:=by omega
  rw[Z1Z s (.inl h1)];go_enter Tryz.func142,Tryz.ntmps142
  go_wp2
  go_ret
  exact⟨rfl,rfl⟩
 ·have h1':¬ (s.size:Int)<1:=by omega
  by_cases h2:8<s.size
  ·have h2':(8:Int)<s.size:=by omega
   rw[Z1Z s (.inr h2)];go_enter Tryz.func142,Tryz.ntmps142
   go_wp2
   go_ret
   exact⟨rfl,rfl⟩
  ·have h2':¬ (8:Int)<s.size:=by omega
   go_enter Tryz.func142,Tryz.ntmps142
   go_wp2
   go_loop [14] (fun i=>∃ k:Nat,k<=s.size∧i=.int .i64 k∧Hid ((s.data.toList.take k).all okB=true)) (fun i=>s.size-(intOf i).toNat)
   case atStart=>exact⟨0,Nat.zero_le _,rfl,rfl⟩
   case round=>
    obtain⟨k,hk,rfl,ha⟩:=hrel
    by_cases hlt:k<s.size
    ·have hlt':(k:Int)<s.size:=by omega
     have C:=hid (fun wx=>JM (s[k]) wx)
     have S:=hid (fun (o:okB s[k]=true)=>Z2A s k hlt ha.out o)
     have B:=hid (fun (o:okB s[k]=false)=>Z4J s (Z5O s k hlt o))
     generalize okB s[k]=r at C S B;cases r with
     | true=>
      have S':=hid (S.out rfl);clear S B;go_wp2_with (go_at_call 182; refine (C.out _).mono ?_; rintro e w' ⟨rfl,rfl⟩)
      go_round
      case rel=>exact⟨k+1,by omega,by go_num,S'⟩
      case measure=>simp[intOf]; omega
     | false=>
      have B':=hid (B.out rfl);clear S B;go_wp2_with (go_at_call 182; refine (C.out _).mono ?_; rintro e w' ⟨rfl,rfl⟩)
      go_ret
      exact⟨Z7 B'.out.symm,rfl⟩
    ·obtain rfl:k=s.size:=by omega
     have hlt':¬ (s.size:Int)<s.size:=by omega
     have e:=ha.out;rw[List.take_of_length_le (by simp)] at e
     have M:=hid (show nameMay s=true by rw[Z4L s e,decide_eq_true (by omega)])
     clear e;go_wp2
     go_ret
     exact⟨Z7 M.out.symm,rfl⟩
theorem UG (s:ByteArray) (w:World) (hs:s.size<=maxLen):
  Calls Tryz.prog 123 #[.string s] w fun e w'=>e=.returned (.bool (nameMay s))∧w'=w:=by
 unfold maxLen at hs;go_enter Tryz.func123,Tryz.ntmps123
 go_wp2
 go_loop [3] (fun i=>∃ k:Nat,k<=s.size∧i=.int .i64 k∧Hid ((s.data.toList.take k).all okB=true)) (fun i=>s.size-(intOf i).toNat)
 case atStart=>exact⟨0,Nat.zero_le _,rfl,rfl⟩
 case round=>
  obtain⟨k,hk,rfl,ha⟩:=hrel
  by_cases hlt:k<s.size
  ·have hlt':(k:Int)<s.size:=by omega
   have u1:wrap64 (s[k].toNat:Int)=(s[k].toNat:Int):=wrap_byte _;have C1:=hid (fun wx=>Zm (s[k].toNat:Int) 97 122 wx)
   have C2:=hid (fun wx=>Zm (s[k].toNat:Int) 48 57 wx)
   have S:=hid (fun (o:(decide (97<=(s[k].toNat:Int)∧(s[k].toNat:Int)<=122)||decide (48<=(s[k].toNat:Int)∧(s[k].toNat:Int)<=57))=true)=>Z2A s k hlt ha.out o)
   have B:=hid (fun (o:(decide (97<=(s[k].toNat:Int)∧(s[k].toNat:Int)<=122)||decide (48<=(s[k].toNat:Int)∧(s[k].toNat:Int)<=57))=false)=>Z4J s (Z5O s k hlt o))
   generalize decide (97<=(s[k].toNat:Int)∧(s[k].toNat:Int)<=122)=r1 at C1 S B;generalize decide (48<=(s[k].toNat:Int)∧(s[k].toNat:Int)<=57)=r2 at C2 S B;cases r1 with
   | true=>
    have S':=hid (S.out rfl);clear S B;go_wp2_with fail
    refine (C1.out _).mono ?_
    rintro _ w9 ⟨rfl,h9⟩;have h8:=h9.symm;subst h8;go_wp2
    go_round
    case rel=>exact⟨k+1,by omega,by go_num,S'⟩
    case measure=>simp[intOf]; omega
   | false=>
    cases r2 with
    | true=>
     have S':=hid (S.out rfl);clear S B;go_wp2_with fail
     refine (C1.out _).mono ?_
     rintro _ w9 ⟨rfl,h9⟩;have h8:=h9.symm;subst h8;go_wp2_with fail
     refine (C2.out _).mono ?_
     rintro _ w9 ⟨rfl,h9⟩;have h8:=h9.symm;subst h8;go_wp2
     go_round
     case rel=>exact⟨k+1,by omega,by go_num,S'⟩
     case measure=>simp[intOf]; omega
    | false=>
     have B':=hid (B.out rfl);clear S B;go_wp2_with fail
     refine (C1.out _).mono ?_
     rintro _ w9 ⟨rfl,h9⟩;have h8:=h9.symm;subst h8;go_wp2_with fail
     refine (C2.out _).mono ?_
     rintro _ w9 ⟨rfl,h9⟩;have h8:=h9.symm;subst h8;go_wp2
     go_ret
     exact⟨Z7 B'.out.symm,rfl⟩
  ·obtain rfl:k=s.size:=by omega
   have hlt':¬ (s.size:Int)<s.size:=by omega
   have e:=ha.out;rw[List.take_of_length_le (by simp)] at e
   have C:=hid (fun wx=>Zm (s.size:Int) 1 8 wx)
   have M:=hid (show nameMay s=decide ((1:Int)<=s.size∧(s.size:Int)<=8) by rw[Z4L s e,decide_eq_decide]; omega)
   generalize decide ((1:Int)<=s.size∧(s.size:Int)<=8)=r at C M;clear e;go_wp2_with (go_at_call 28; refine (C.out _).mono ?_; rintro e w' ⟨rfl,rfl⟩)
   go_ret
   exact⟨Z7 M.out.symm,rfl⟩
end Go.Proofs.YtdnacpbgodooaaaGreatDoor
namespace Go.Proofs.YtdnacpbgodooaaaGreatDoor
open Go.RowKit Go.Lib
theorem Z2w (L:List Bk) (k:Nat) (h:L.length=k+1):behB L=(bk L k).f+secs (bk L k).n.toNat:=by
 have e2:L.getLast?=some (bk L k):=by rw[List.getLast?_eq_getElem?,h,Nat.add_sub_cancel,bk_lt L k (by omega),List.getElem?_eq_getElem (by omega)]
 unfold behB;rw[e2]
theorem WA (a:Option Addr) (n c:Nat) (L:List Bk) (w:World) (H:YP w a n L) (hl:∀ k,n=k+1->(0<=(bk L k).f∧(bk L k).f<=1000000)∧0<=(bk L k).n∧(bk L k).n<=1000000):
  Calls Tryz.prog 147 #[.slice a n c] w fun e w'=>e=.returned (.int .i64 (behB L))∧Below w.heap.size w w':=by
 have hnb:=H.nb;unfold maxLen at hnb
 by_cases h0:n=0
 ·subst h0
  have e:L=[]:=List.eq_nil_of_length_eq_zero H.sn.symm;have e2:behB L=8:=by rw[e]; rfl
  rw[e2];clear H hl e e2;go_enter Tryz.func147,Tryz.ntmps147
  go_wp2
  go_ret
  exact⟨rfl,Below.refl _ _⟩
 ·obtain⟨k,rfl⟩:∃ k,n=k+1:=⟨n-1,by omega⟩
  obtain⟨⟨f0,f1⟩,n0,n1⟩:=hl k rfl;obtain⟨b,o,rfl,hb,c0,c1⟩:=H.c k (by omega)
  rw[Z2w L k H.sn.symm];obtain⟨m,hm⟩:∃ m:Nat,(bk L k).n=m:=⟨(bk L k).n.toNat,by omega⟩
  rw[hm] at c1 n1 ⊢;rw[Int.toNat_natCast];generalize (bk L k).f=f at c0 f0 f1;have CS:=hid (fun wx=>Wn m wx (by omega))
  have hs:secs m<=1000000:=by unfold secs; omega
  generalize secs m=S at CS hs;clear H hl hm n0;have hz:(((k+1:Nat):Int)==0)=false:=by rw[beq_eq_false_iff_ne]; omega
  have u1:IntKind.i64.wrap (f+(S:Int))=f+(S:Int):=IntWalk.i64_in _ (by omega)
  go_enter Tryz.func147,Tryz.ntmps147
  go_wp2_with fail
  go_quiet ((go_at_call 96; exact Calls.quiet_of_same (CS.out _)))
  go_wp2
  go_ret
  exact⟨rfl,below_drewN (by go_grown) _⟩
end Go.Proofs.YtdnacpbgodooaaaGreatDoor
