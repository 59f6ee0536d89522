import Derived.Test.YtdnacpbgodooaaaGreatDoorPureB
import Derived.BigQuiet
import Derived.Test.YtdnacpbgodooaaaGreatDoorMem
set_option maxHeartbeats 1600000
set_option maxRecDepth 20000
namespace Go.Proofs.YtdnacpbgodooaaaGreatDoor
open Go.RowKit
theorem Js {l:List UInt8} {k i m:Nat} (ha:∀ j,j<m->bat l (k+j)=bat l (i+j)) (h:bat l (k+m)=bat l (i+m)):∀ j,j<m+1->bat l (k+j)=bat l (i+j):=fun j hj=>by
 rcases Nat.lt_succ_iff_lt_or_eq.1 hj with h' | rfl
 ·exact ha j h'
 ·exact h
theorem Z5P (s:ByteArray) (k i:Nat) (w:World) (hs:s.size<=maxLen) (hi:i<=s.size) (hk:k<i):
  Calls Tryz.prog 124 #[.string s,.int .i64 k,.int .i64 i] w fun e w'=>e=.returned (.int .i64 (alike s.data.toList k i))∧∃ n,w'=w.drewN n:=by
 unfold maxLen at hs;go_enter Tryz.func124,Tryz.ntmps124
 go_wp2
 go_loopw [7] (fun n wr=>∃ m q:Nat,n=.int .i64 m∧m<=131∧i+m<=s.size∧wr=w.drewN q∧Hid (∀ j,j<m->bat s.data.toList (k+j)=bat s.data.toList (i+j))) (fun n _=>131-(intOf n).toNat)
 case atStart=>exact⟨0,0,rfl,by omega,by omega,rfl,fun j hj=>by omega⟩
 case round=>
  obtain⟨m,q,rfl,hm,him,rfl,H⟩:=hrel
  by_cases h1:m<131
  ·by_cases h2:i+m<s.size
   ·have h4:k+m<s.size:=by omega
    have b1:=XY s (k+m) h4;have b2:=XY s (i+m) h2;have g1:(m:Int)<131:=by omega
    have i1:(i:Int)+m<s.size:=by omega
    have i2:(k:Int)+m<s.size:=by omega
    have j1:(0:Int)<=(i:Int)+m:=by omega
    have j2:(0:Int)<=(k:Int)+m:=by omega
    have e1:((i:Int)+m).toNat=i+m:=by omega
    have e2:((k:Int)+m).toNat=k+m:=by omega
    by_cases h3:s[k+m]=s[i+m]
    ·have B:=Js H.out (by rw[b1,b2]; exact h3)
     have B':Hid (∀ j,j<m+1->bat s.data.toList (k+j)=bat s.data.toList (i+j)):=B;have hc:((s[k+m].toNat:Int)==(s[i+m].toNat:Int))=true:=by rw[QF]; simpa using h3
     clear h3 B H b1 b2;go_wp2_with fail
     go_quiet (fail)
     go_wp2
     go_roundw
     case rel=>exact⟨m+1,_,by go_num,by omega,by omega,rfl,B'⟩
     case measure=>simp[intOf]; omega
    ·have E:Hid (alike s.data.toList k i=m):=WB _ _ _ _ hm (by rw[ba_len]; exact him) H.out (.inr (.inr (by rw[b1,b2]; exact h3)))
     have hc:((s[k+m].toNat:Int)==(s[i+m].toNat:Int))=false:=by rw[QF]; simpa using h3
     clear h3 H b1 b2;go_wp2_with fail
     go_quiet (fail)
     go_wp2
     go_ret
     exact⟨ret_int (by rw[E.out]),_,World.drewN_drewN _ _ _⟩
   ·have E:Hid (alike s.data.toList k i=m):=WB _ _ _ _ hm (by rw[ba_len]; exact him) H.out (.inr (.inl (by rw[ba_len]; omega)))
    have g1:(m:Int)<131:=by omega
    have g2:decide ((i:Int)+m<s.size)=false:=by simp; omega
    clear H;go_wp2_with fail
    go_quiet (fail)
    go_wp2
    go_ret
    exact⟨ret_int (by rw[E.out]),_,World.drewN_drewN _ _ _⟩
  ·have E:Hid (alike s.data.toList k i=m):=WB _ _ _ _ hm (by rw[ba_len]; exact him) H.out (.inl (by omega))
   have g1:decide ((m:Int)<131)=false:=by simp; omega
   clear H;go_wp2_with fail
   go_quiet (fail)
   go_wp2
   go_ret
   exact⟨ret_int (by rw[E.out]),_,World.drewN_drewN _ _ _⟩
theorem Z69 (s:ByteArray) (i d:Nat) (w:World) (hs:s.size<=maxLen) (hi:i<=s.size) (hd:1<=d) (hdi:d<=i):
  Calls Tryz.prog 146 #[.string s,.int .i64 i,.int .i64 d] w fun e w'=>e=.returned (.int .i64 (alike s.data.toList (i-d) i))∧∃ n,w'=w.drewN n:=by
 unfold maxLen at hs;go_enter Tryz.func146,Tryz.ntmps146
 go_wp2
 go_loopw [7] (fun n wr=>∃ m q:Nat,n=.int .i64 m∧m<=131∧i+m<=s.size∧wr=w.drewN q∧Hid (∀ j,j<m->bat s.data.toList (i-d+j)=bat s.data.toList (i+j))) (fun n _=>131-(intOf n).toNat)
 case atStart=>exact⟨0,0,rfl,by omega,by omega,rfl,fun j hj=>by omega⟩
 case round=>
  obtain⟨m,q,rfl,hm,him,rfl,H⟩:=hrel
  by_cases h1:m<131
  ·by_cases h2:i+m<s.size
   ·obtain⟨K,hK⟩:∃ K,i-d+m=K:=⟨_,rfl⟩
    have h4:K<s.size:=by omega
    have b1:=XY s K h4;have b2:=XY s (i+m) h2;have g1:(m:Int)<131:=by omega
    have i1:(i:Int)+m<s.size:=by omega
    have j1:(0:Int)<=(i:Int)+m:=by omega
    have e1:((i:Int)+m).toNat=i+m:=by omega
    have w1:IntKind.i64.wrap ((s.size:Int)-i)=s.size-i:=IntWalk.i64_in _ (by omega)
    have w3:IntKind.i64.wrap ((i:Int)+m)=i+m:=IntWalk.i64_in _ (by omega)
    have w2:IntKind.i64.wrap ((i:Int)+m-d)=K:=by rw[IntWalk.i64_in _ (by omega)]; omega
    obtain⟨M,mn,hM⟩:∃ M:Int,(if (131:Int)<s.size-i then 131 else (s.size:Int)-i)=M∧(m:Int)<M:=⟨((min (s.size-i) 131:Nat):Int),by split <;> omega,by omega⟩
    have gm:(m:Int)<M:=by omega
    clear hM
    by_cases h3:s[K]=s[i+m]
    ·have B:=Js H.out (by rw[hK,b1,b2]; exact h3)
     have B':Hid (∀ j,j<m+1->bat s.data.toList (i-d+j)=bat s.data.toList (i+j)):=B;have hc:((s[i+m].toNat:Int)==(s[K].toNat:Int))=true:=by rw[QF]; simpa using h3.symm
     clear h3 B H b1 b2 hK;go_wp2_with fail
     go_quiet (fail)
     go_wp2
     go_roundw
     case rel=>exact⟨m+1,_,by go_num,by omega,by omega,rfl,B'⟩
     case measure=>simp[intOf]; omega
    ·have E:Hid (alike s.data.toList (i-d) i=m):=WB _ _ _ _ hm (by rw[ba_len]; exact him) H.out (.inr (.inr (by rw[hK,b1,b2]; exact h3)))
     have hc:((s[i+m].toNat:Int)==(s[K].toNat:Int))=false:=by rw[QF]; simpa using fun h=>h3 h.symm
     clear h3 H b1 b2 hK;go_wp2_with fail
     go_quiet (fail)
     go_wp2
     go_ret
     exact⟨ret_int (by rw[E.out]),_,World.drewN_drewN _ _ _⟩
   ·have E:Hid (alike s.data.toList (i-d) i=m):=WB _ _ _ _ hm (by rw[ba_len]; exact him) H.out (.inr (.inl (by rw[ba_len]; omega)))
    have w1:IntKind.i64.wrap ((s.size:Int)-i)=s.size-i:=IntWalk.i64_in _ (by omega)
    obtain⟨M,mn,hM⟩:∃ M:Int,(if (131:Int)<s.size-i then 131 else (s.size:Int)-i)=M∧¬ (m:Int)<M:=⟨((min (s.size-i) 131:Nat):Int),by split <;> omega,by omega⟩
    have g2:decide ((m:Int)<M)=false:=by simp; omega
    clear H hM h1 h2;go_wp2_with fail
    go_quiet (fail)
    go_wp2
    go_ret
    exact⟨ret_int (by rw[E.out]),_,World.drewN_drewN _ _ _⟩
  ·have E:Hid (alike s.data.toList (i-d) i=m):=WB _ _ _ _ hm (by rw[ba_len]; exact him) H.out (.inl (by omega))
   have w1:IntKind.i64.wrap ((s.size:Int)-i)=s.size-i:=IntWalk.i64_in _ (by omega)
   obtain⟨M,mn,hM⟩:∃ M:Int,(if (131:Int)<s.size-i then 131 else (s.size:Int)-i)=M∧¬ (m:Int)<M:=⟨((min (s.size-i) 131:Nat):Int),by split <;> omega,by omega⟩
   have g2:decide ((m:Int)<M)=false:=by simp; omega
   clear H hM h1;go_wp2_with fail
   go_quiet (fail)
   go_wp2
   go_ret
   exact⟨ret_int (by rw[E.out]),_,World.drewN_drewN _ _ _⟩
theorem Z16 (s:ByteArray) (i:Nat) (w:World) (hs:s.size<=maxLen) (hi:i<=s.size):
  Calls Tryz.prog 92 #[.string s,.int .i64 i] w fun e w'=>e=.returned (.tuple #[.int .i64 (best s.data.toList i).1,.int .i64 (best s.data.toList i).2])∧∃ n,w'=w.drewN n:=by
 have hm:=hs;unfold maxLen at hs;go_enter Tryz.func92,Tryz.ntmps92
 go_wp2
 go_loopw [4,5,6] (fun a b d wr=>∃ m q:Nat,d=.int .i64 (m+1:Nat)∧m<=min i 255∧wr=w.drewN q∧a=.int .i64 (Zi s.data.toList i m).1∧b=.int .i64 (Zi s.data.toList i m).2) (fun _ _ d _=>i+1-(intOf d).toNat)
 case atStart=>exact⟨0,0,rfl,by omega,rfl,rfl,rfl⟩
 case round=>
  obtain⟨m,q,rfl,hmi,rfl,rfl,rfl⟩:=hrel;obtain⟨M,mn,hM⟩:∃ M:Int,(if (255:Int)<i then 255 else (i:Int))=M∧M=((min i 255:Nat):Int):=⟨((min i 255:Nat):Int),by split <;> omega,rfl⟩
  have HM:Hid (M=((min i 255:Nat):Int)):=hM;clear hM;have e:((m+1:Nat):Int)=(m:Int)+1:=by omega
  by_cases h:m<min i 255
  ·have G:=Zi.eq_2 s.data.toList i m
   have HG:Hid (Zi s.data.toList i (m+1)=if (Zi s.data.toList i m).1<alike s.data.toList (i-(m+1)) i then (alike s.data.toList (i-(m+1)) i,m+1) else Zi s.data.toList i m):=G
   clear G;have hc:=Z69 s i (m+1) (w.drewN q) hm hi (by omega) (by omega)
   generalize alike s.data.toList (i-(m+1)) i=n at hc HG;rw[e] at hc ⊢;have HC:=hid hc;have gm:(m:Int)+1<=M:=by have:=HM.out; omega
   clear hc e h hmi;go_wp2_with fail
   refine HC.out.mono ?_
   rintro _ _ ⟨rfl,q',rfl⟩
   by_cases hlt:(Zi s.data.toList i m).1<n
   ·have gl:((Zi s.data.toList i m).1:Int)<n:=by omega
    have E:Hid (Zi s.data.toList i (m+1)=(n,m+1)):=by show _=_; rw[HG.out,if_pos hlt]
    clear hlt HG HC;go_wp2
    go_roundw
    case rel=>exact⟨m+1,_,by go_num,by have:=HM.out; omega,rfl,by rw[E.out],by rw[E.out]; go_num⟩
    case measure=>have:=HM.out; simp[intOf]; omega
   ·have gl:¬ ((Zi s.data.toList i m).1:Int)<n:=by omega
    have E:Hid (Zi s.data.toList i (m+1)=Zi s.data.toList i m):=by show _=_; rw[HG.out,if_neg hlt]
    clear hlt HG HC;go_wp2
    go_roundw
    case rel=>exact⟨m+1,_,by go_num,by have:=HM.out; omega,rfl,by rw[E.out],by rw[E.out]⟩
    case measure=>have:=HM.out; simp[intOf]; omega
  ·have gm:¬ (m:Int)+1<=M:=by have:=HM.out; omega
   have eb:Hid (Zi s.data.toList i m=best s.data.toList i):=by show _=_; rw[best,show min i 255=m by omega]
   rw[e];clear e h hmi;go_wp2_with fail
   go_ret2
   exact⟨by rw[<- eb.out]; rfl,_,rfl⟩
end Go.Proofs.YtdnacpbgodooaaaGreatDoor
namespace Go.Proofs.YtdnacpbgodooaaaGreatDoor
open Go.RowKit
theorem UI (k:Nat):∀ (s:ByteArray) (w:World),s.size<=k->s.size<=600 ->
  Calls Tryz.prog 125 #[.string s] w fun e w'=>e=.returned (.string (str (plainly s.data.toList)))∧Below w.heap.size w w':=by
 induction k with
 | zero=>
  intro s w hk h6;have h0:((s.size:Int)==0)=true:=beq_iff_eq.2 (by omega)
  have E:Hid (plainly s.data.toList=[]):=by show _=_; rw[plainly_eq,if_pos (by rw[ba_len]; omega)]
  clear hk h6;go_enter Tryz.func125,Tryz.ntmps125
  go_wp2_with fail
  go_ret
  exact⟨VC (by rw[E.out]; rfl),Below.refl _ _⟩
 | succ k ih=>
  intro s w hk h6
  by_cases h0:s.size=0
  ·have h0:((s.size:Int)==0)=true:=beq_iff_eq.2 (by omega)
   have E:Hid (plainly s.data.toList=[]):=by show _=_; rw[plainly_eq,if_pos (by rw[ba_len]; omega)]
   clear hk h6;go_enter Tryz.func125,Tryz.ntmps125
   go_wp2_with fail
   go_ret
   exact⟨VC (by rw[E.out]; rfl),Below.refl _ _⟩
  ·have h0':((s.size:Int)==0)=false:=beq_eq_false_iff_ne.2 (by omega)
   obtain⟨n,hn⟩:∃ n,n=min s.size 128:=⟨_,rfl⟩;have hN:=Z2n ((n:Int)-1) (by omega) (by omega)
   have E:Hid (str (plainly s.data.toList)=str [byt ((n:Int)-1)]++s.extract 0 n++str (plainly (s.extract n s.size).data.toList)):=by
    show _=_
    rw[ext_str s 0 n,str_app,str_app,ext_list,plainly_eq,if_neg (by rw[ba_len]; exact h0),ba_len,<- hn]
    have e1:s.data.toList.take 128=cut s.data.toList 0 n:=by rw[cut,List.drop_zero,hn,<- ba_len s,Nat.min_comm,List.take_eq_take_iff]; simp
    have e2:s.data.toList.drop 128=cut s.data.toList n s.size:=by
     rw[cut,<- ba_len s,List.take_length,hn,<- ba_len s]
     by_cases h:s.data.toList.length<=128
     ·rw[Nat.min_eq_left h,List.drop_length,List.drop_eq_nil_of_le h]
     ·rw[Nat.min_eq_right (by omega)]
    rw[e1,e2]; simp
   have hx:=fun wx=>ih (s.extract n s.size) wx (by rw[Zh _ _ _ (Nat.le_refl _)]; omega) (by rw[Zh _ _ _ (Nat.le_refl _)]; omega)
   have hl:(str (plainly (s.extract n s.size).data.toList)).size<=1300:=by rw[str_size,plainly_length,ba_len,Zh _ _ _ (Nat.le_refl _)]; omega
   have hl2:(s.extract 0 n).size<=600:=by rw[Zh _ _ _ (by omega)]; omega
   generalize str (plainly (s.extract n s.size).data.toList)=R at hx hl E;have ha1:∀ wx,(Op.stringOp .add (str [byt ((n:Int)-1)]) (s.extract 0 n)).run Tryz.prog wx=.ok (.string (str [byt ((n:Int)-1)]++s.extract 0 n)) wx:=fun wx=>run_string_add_sum wx _ _ (by rw[str_size]; simp; omega)
   have ha2:∀ wx,(Op.stringOp .add (str [byt ((n:Int)-1)]++s.extract 0 n) R).run Tryz.prog wx=.ok (.string (str [byt ((n:Int)-1)]++s.extract 0 n++R)) wx:=fun wx=>run_string_add_sum wx _ _ (by rw[ByteArray.size_append,str_size]; simp; omega)
   clear hl hl2;have HX:=hid hx;clear hx ih
   by_cases hbig:128<s.size
   ·have hb':(128:Int)<s.size:=by omega
    obtain rfl:n=128:=by omega
    have u1:IntKind.i64.wrap 127=127:=rfl;have u2:IntKind.u8.wrap 127=127:=rfl;clear hn h0 hk h6;rw[show (((128:Nat):Int)-1)=127 from rfl] at *;go_enter Tryz.func125,Tryz.ntmps125
    go_wp2_with fail
    go_region_with (go_at_call 125; refine (HX.out _).mono ?_; rintro _ _ ⟨rfl,hb⟩; obtain⟨hc,hf⟩:=bcell hb)
    all_goals go_wp2
    all_goals go_ret
    all_goals refine⟨VC E.out.symm,?_⟩
    all_goals first
     | exact (((Below.refl _ _).alloc (Nat.le_refl _) _).drew).trans (hb.mono (by simp))
     | exact (((Below.refl _ _).drew).trans hb).alloc (by have:=hb.size; simpa using this) _
   ·obtain rfl:n=s.size:=by omega
    have hb':¬ (128:Int)<s.size:=by omega
    have u1:IntKind.i64.wrap ((s.size:Int)-1)=s.size-1:=IntWalk.i64_in _ (by omega)
    have u2:IntKind.u8.wrap ((s.size:Int)-1)=s.size-1:=by rw[IntKind.wrap_u8]; omega
    have e0:s.extract 0 s.size=s:=by simp
    have e9:s.extract s.size s.size=ByteArray.empty:=by simp
    rw[e0] at ha1 ha2 E;rw[e9] at HX;clear hn h0 hk h6 hbig e0 e9;go_enter Tryz.func125,Tryz.ntmps125
    go_wp2_with fail
    go_region_with (go_at_call 125; refine (HX.out _).mono ?_; rintro _ _ ⟨rfl,hb⟩; obtain⟨hc,hf⟩:=bcell hb)
    all_goals go_wp2
    all_goals go_ret
    all_goals refine⟨VC E.out.symm,?_⟩
    all_goals first
     | exact (((Below.refl _ _).alloc (Nat.le_refl _) _).drew).trans (hb.mono (by simp))
     | exact (((Below.refl _ _).drew).trans hb).alloc (by have:=hb.size; simpa using this) _
end Go.Proofs.YtdnacpbgodooaaaGreatDoor
namespace Go.Proofs.YtdnacpbgodooaaaGreatDoor
open Go.RowKit
theorem JK (s:ByteArray) (w:World) (h:s.size<=600):
  Calls Tryz.prog 64 #[.string s] w fun e w'=>e=.returned (.tuple #[.string (str (packed s.data.toList)),.int .i64 0])∧Below w.heap.size w w':=by
 have h':¬ (600:Int)<s.size:=by omega
 have hlen:=ba_len s;have HL:=hid hlen;have hp:(packed s.data.toList).length<=1300:=by have:=YA s.data.toList; omega
 have HP:=hid hp;clear hlen hp;go_enter Tryz.func64,Tryz.ntmps64
 go_wp2_with fail
 go_loopw [4,5,6] (fun o f i wr=>∃ (O:List UInt8) (F I:Nat),o=.string (str O)∧f=.int .i64 F∧i=.int .i64 I∧F<=I∧I<=s.size∧Hid (O++rest s.data.toList F I=packed s.data.toList)∧Below w.heap.size w wr) (fun _ _ i _=>s.size-(intOf i).toNat)
 case atStart=>exact⟨[],0,0,rfl,rfl,rfl,Nat.le_refl _,Nat.zero_le _,rfl,Below.refl _ _⟩
 case round=>
  obtain⟨O,F,I,rfl,rfl,rfl,hFI,hIs,HR,hB⟩:=hrel
  by_cases hlt:I<s.size
  ·go_wp2_with fail
   go_loopw [7,8,9] (fun a b d wx=>∃ m q:Nat,d=.int .i64 (m+1:Nat)∧m<=min I 255∧wx=wr.drewN q∧a=.int .i64 (Zi s.data.toList I m).1∧b=.int .i64 (Zi s.data.toList I m).2) (fun _ _ d _=>I+1-(intOf d).toNat)
   case atStart=>exact⟨0,0,rfl,by omega,rfl,rfl,rfl⟩
   case round=>
    obtain⟨m,q,rfl,hmi,rfl,rfl,rfl⟩:=hrel;have e:((m+1:Nat):Int)=(m:Int)+1:=by omega
    by_cases hm:m<min I 255
    ·have G:=Zi.eq_2 s.data.toList I m
     have HG:=hid G;have hc:=fun wx=>Z5P s (I-(m+1)) I wx (by unfold maxLen; omega) (by omega) (by omega)
     generalize alike s.data.toList (I-(m+1)) I=n at hc HG;rw[show ((I-(m+1):Nat):Int)=(I:Int)-(m+1) by omega] at hc
     rw[e];have HC:=hid hc;have g1:(m:Int)+1<=255:=by omega
     have g2:(m:Int)+1<=I:=by omega
     clear hc e G
     by_cases hlt2:(Zi s.data.toList I m).1<n
     ·have gl:((Zi s.data.toList I m).1:Int)<n:=by omega
      have E:Hid (Zi s.data.toList I (m+1)=(n,m+1)):=by show _=_; rw[HG.out,if_pos hlt2]
      clear hlt2 HG;go_wp2_with fail
      refine (HC.out _).mono ?_
      rintro _ _ ⟨rfl,q',rfl⟩;clear HC;go_wp2
      go_roundw
      case rel=>exact⟨m+1,_,by go_num,by omega,rfl,by rw[E.out],by rw[E.out]; go_num⟩
      case measure=>simp[intOf]; omega
     ·have gl:¬ ((Zi s.data.toList I m).1:Int)<n:=by omega
      have E:Hid (Zi s.data.toList I (m+1)=Zi s.data.toList I m):=by show _=_; rw[HG.out,if_neg hlt2]
      clear hlt2 HG;go_wp2_with fail
      refine (HC.out _).mono ?_
      rintro _ _ ⟨rfl,q',rfl⟩;clear HC;go_wp2
      go_roundw
      case rel=>exact⟨m+1,_,by go_num,by omega,rfl,by rw[E.out],by rw[E.out]⟩
      case measure=>simp[intOf]; omega
    ·have eb:Zi s.data.toList I m=best s.data.toList I:=by rw[best,show min I 255=m by omega]
     have hbd:=Z1t s.data.toList I (by rw[ba_len]; omega)
     rw[ba_len] at hbd;have hB':=below_drewN hB q;rw[eb,e];generalize wr.drewN q=wq at hB';clear eb e hB
     by_cases h4:(best s.data.toList I).1<4
     ·have R:=hid (Z1M HR.out (by rw[ba_len]; exact hlt) h4)
      generalize (best s.data.toList I)=bb at h4;clear hbd;have h4':(bb.1:Int)<4:=by omega
      by_cases g:(m:Int)+1<=255
      ·have g2:¬ (m:Int)+1<=I:=by omega
       clear hm hmi;go_wp2
       go_roundw
       case rel=>exact⟨O,F,I+1,rfl,rfl,by go_num,by omega,by omega,R,hB'⟩
       case measure=>simp[intOf]; omega
      ·clear hm hmi
       go_wp2
       go_roundw
       case rel=>exact⟨O,F,I+1,rfl,rfl,by go_num,by omega,by omega,R,hB'⟩
       case measure=>simp[intOf]; omega
     ·have R:=hid (Z1L HR.out (by rw[ba_len]; exact hlt) (by omega))
      have hP:=HP.out;rw[<- R.out] at hP;generalize (best s.data.toList I)=bb at h4 hbd R hP;obtain⟨b1,b2,b3,b4,b5⟩:=hbd;clear b5 HR;have hx:=fun wx=>UI 600 (s.extract F I) wx (by rw[Zh _ _ _ (by omega)]; omega) (by rw[Zh _ _ _ (by omega)]; omega)
      rw[ext_list] at hx;generalize plainly (cut s.data.toList F I)=pp at hx hP R;simp only[List.length_append] at hP
      have ha1:∀ wx,(Op.stringOp .add (str O) (str pp)).run Tryz.prog wx=.ok (.string (str (O++pp))) wx:=fun wx=>by rw[<- str_app]; exact run_string_add_sum wx _ _ (by rw[str_size,str_size]; omega)
      have ha2:∀ wx,(Op.stringOp .add (str (O++pp)) (str [byt (124+bb.1),byt bb.2])).run Tryz.prog wx=.ok (.string (str (O++pp++[byt (124+bb.1),byt bb.2]))) wx:=fun wx=>by rw[<- str_app]; exact run_string_add_sum wx _ _ (by rw[str_app,str_size,str_size,List.length_append]; simp; omega)
      have hcv:=Z2m (124+bb.1) bb.2 (by omega) (by omega) (by omega) (by omega)
      have u1:IntKind.i64.wrap (124+(bb.1:Int))=124+bb.1:=IntWalk.i64_in _ (by omega)
      have u2:IntKind.u8.wrap (124+(bb.1:Int))=124+bb.1:=by rw[IntKind.wrap_u8]; omega
      have u3:IntKind.u8.wrap (bb.2:Int)=bb.2:=by rw[IntKind.wrap_u8]; omega
      have f1:(F:Int)<=I:=by omega
      have f2:(I:Int)<=s.size:=by omega
      have HX:=hid hx;clear hx hP;have h4':¬ (bb.1:Int)<4:=by omega
      by_cases g:(m:Int)+1<=255
      ·have g2:¬ (m:Int)+1<=I:=by omega
       clear hm hmi h4;go_wp2_with fail
       go_region_with (go_at_call 125; refine (HX.out _).mono ?_; rintro _ _ ⟨rfl,hb⟩; obtain⟨hc,hf⟩:=bcell hb)
       all_goals
        go_wp2
        go_roundw
        case rel=>
         refine⟨O++pp++[byt (124+bb.1),byt bb.2],I+bb.1,I+bb.1,by rw[List.append_assoc],by go_num,by go_num,Nat.le_refl _,by omega,R,?_⟩
         first
          | exact ((hB'.alloc hB'.size _).drew).trans (hb.mono (by have:=hB'.size; simp; omega))
          | exact ((hB'.drew).trans (hb.mono hB'.size)).alloc (by have:=hb.size; have:=hB'.size; simp at *; omega) _
        case measure=>simp[intOf]; omega
      ·clear hm hmi h4
       go_wp2_with fail
       go_region_with (go_at_call 125; refine (HX.out _).mono ?_; rintro _ _ ⟨rfl,hb⟩; obtain⟨hc,hf⟩:=bcell hb)
       all_goals
        go_wp2
        go_roundw
        case rel=>
         refine⟨O++pp++[byt (124+bb.1),byt bb.2],I+bb.1,I+bb.1,by rw[List.append_assoc],by go_num,by go_num,Nat.le_refl _,by omega,R,?_⟩
         first
          | exact ((hB'.alloc hB'.size _).drew).trans (hb.mono (by have:=hB'.size; simp; omega))
          | exact ((hB'.drew).trans (hb.mono hB'.size)).alloc (by have:=hb.size; have:=hB'.size; simp at *; omega) _
        case measure=>simp[intOf]; omega
  ·have R:=Z4h HR.out (by rw[ba_len]; omega)
   have hx:=UI 600 (s.extract F s.size) wr (by rw[Zh _ _ _ (Nat.le_refl _)]; omega) (by rw[Zh _ _ _ (Nat.le_refl _)]; omega)
   rw[ext_list] at hx;rw[HL.out] at R;have hP:=HP.out;rw[<- R] at hP;have R':=hid R;generalize plainly (cut s.data.toList F s.size)=pp at hx hP R';have ha:∀ wx,(Op.stringOp .add (str O) (str pp)).run Tryz.prog wx=.ok (.string (str O++str pp)) wx:=fun wx=>run_string_add_sum wx _ _ (by rw[str_size,str_size]; simp at hP; omega)
   have HX:=hid hx;clear hx R hP;go_wp2_with fail
   refine HX.out.mono ?_
   rintro _ w1 ⟨rfl,hb⟩;clear HX;go_wp2
   go_ret2
   exact⟨Z1I (by rw[str_app,R'.out]),hB.trans (hb.mono hB.size)⟩
end Go.Proofs.YtdnacpbgodooaaaGreatDoor
namespace Go.Proofs.YtdnacpbgodooaaaGreatDoor
open Go.RowKit Go.Lib
structure PInv (B:Nat) (s:ByteArray) (v:Value) (O:List UInt8) (F:Nat) (w:World):Prop where
 txt:w.heap[B]?=some (.cells #[.string s] 9 (0,0))
 out:w.heap[B+1]?=some (.cells #[v] 103 (0,0))
 far:w.heap[B+2]?=some (.cells #[.int .i64 F] 3 (0,0))
 own:Zz w (B+3) v O
section
variable {B F:Nat} {s:ByteArray} {v v':Value} {O O':List UInt8} {w w0 w1:World}
theorem PInv.size (h:PInv B s v O F w):B+3<=w.heap.size:=by have:=lt_of_block h.far; omega
theorem PInv.drew (h:PInv B s v O F w):PInv B s v O F w.drew:=⟨h.txt,h.out,h.far,h.own⟩
theorem PInv.drewN (h:PInv B s v O F w) (n:Nat):PInv B s v O F (w.drewN n):=⟨h.txt,h.out,h.far,h.own⟩
theorem PInv.alloc (h:PInv B s v O F w) (o:Obj):PInv B s v O F (w.alloc o):=by
 have:=h.size
 exact⟨(Below.heap_alloc _ _ _ (by omega)).trans h.txt,(Below.heap_alloc _ _ _ (by omega)).trans h.out,(Below.heap_alloc _ _ _ (by omega)).trans h.far,World.ownsRow.alloc h.own o⟩
theorem YC (h:PInv B s v O F w):∀ k,v.ownBlock=some k->B+3<=k:=fun k hk=>(World.ownsRow.lt h.own k hk).1
theorem PInv.store (h:PInv B s v O F w) (hg:w.grownBy w1 v.ownBlock) (hown:Zz w1 (B+3) v' O'):PInv B s v' O' F (w1.setCell ⟨B+1,0,none⟩ v'):=by
 have hs:=h.size;have hb:∀ k,k<B+3->w1.heap[k]?=w.heap[k]?:=fun k hk=>hg.block k (by omega) (fun e=>by have:=YC h k e.symm; omega)
 refine⟨?_,one_setCell ((hb _ (by omega)).trans h.out),?_,ownsRow_setCell_below hown (by show B+1<B+3; omega) _⟩
 ·exact (Below.heap_setCell _ _ _ _ (by show B≠B+1; omega)).trans ((hb _ (by omega)).trans h.txt)
 ·exact (Below.heap_setCell _ _ _ _ (by show B+2≠B+1; omega)).trans ((hb _ (by omega)).trans h.far)
theorem PInv.later (h:PInv B s v O F w) (hg:w.grownBy w1 v.ownBlock):w1.cell? ⟨B+1,0,none⟩=some v∧w1.frozen? ⟨B+1,0,none⟩=false:=by
 have hb:w1.heap[B+1]?=w.heap[B+1]?:=hg.block _ (by have:=h.size; omega) (fun e=>by have:=YC h _ e.symm; omega)
 exact⟨cell_of_one (hb.trans h.out),free_of_one (hb.trans h.out)⟩
theorem PInv.later2 (h:PInv B s v O F w) (hg:w.grownBy w1 v.ownBlock):w1.cell? ⟨B+1+1,0,none⟩=some (.int .i64 F)∧w1.frozen? ⟨B+1+1,0,none⟩=false:=by
 have hb:w1.heap[B+2]?=w.heap[B+2]?:=hg.block _ (by have:=h.size; omega) (fun e=>by have:=YC h _ e.symm; omega)
 exact⟨cell_of_one (hb.trans h.far),free_of_one (hb.trans h.far)⟩
theorem PInv.below (h:PInv B s v O F w) (hb:Below B w0 w) (hg:w.grownBy w1 v.ownBlock):Below B w0 (w1.setCell ⟨B+1,0,none⟩ v'):=
 (hb.grown hg (by have:=h.size; omega) (fun k hk=>by have:=YC h k hk; omega)).setCell (by show B<=B+1; omega) _
theorem PInv.go (h:PInv B s v O F w) (F':Nat):PInv B s v O F' (w.setCell ⟨B+2,0,none⟩ (.int .i64 F')):=by
 refine⟨?_,?_,one_setCell h.far,ownsRow_setCell_below h.own (by show B+2<B+3; omega) _⟩
 ·exact (Below.heap_setCell _ _ _ _ (by show B≠B+2; omega)).trans h.txt
 ·exact (Below.heap_setCell _ _ _ _ (by show B+1≠B+2; omega)).trans h.out
end
theorem Z8i (l:List UInt8) (F E n:Nat) (hE:E<=l.length) (hF:F<=E) (hn:n=min (E-F) 128):(cut l F E).take 128=cut l F (F+n)∧(cut l F E).drop 128=cut l (F+n) E:=by
 constructor
 ·rw[cut,cut,List.take_drop,List.take_take]
  by_cases h:E-F<=128
  ·rw[show F+n=E by omega,Nat.min_eq_right (by omega)]
  ·rw[show F+n=F+128 by omega,Nat.min_eq_left (by omega)]
 ·rw[cut,cut,List.drop_drop]
  by_cases h:E-F<=128
  ·rw[show F+n=E by omega,List.drop_eq_nil_of_le (by simp; omega),List.drop_eq_nil_of_le (by simp; omega)]
  ·rw[show F+n=F+128 by omega]
theorem Z0W (l:List UInt8) (F E n:Nat) (hE:E<=l.length) (hF:F<E) (hn:n=min (E-F) 128):plainly (cut l F E)=byt ((n:Int)-1)::(cut l F (F+n)++plainly (cut l (F+n) E)):=by
 obtain⟨h1,h2⟩:=Z8i l F E n hE (by omega) hn
 rw[plainly_eq,cut_length _ _ _ hE,if_neg (by omega),h1,h2,hn]
theorem Z64 {l O:List UInt8} {F E n:Nat} {T:List UInt8} (h:O++plainly (cut l F E)=T) (hE:E<=l.length) (hF:F<E) (hn:n=min (E-F) 128):
  O++[byt ((n:Int)-1)]++cut l F (F+n)++plainly (cut l (F+n) E)=T:=by rw[<- h,Z0W l F E n hE hF hn]; simp
theorem UY (B:Nat) (s:ByteArray) (v:Value) (O:List UInt8) (F E:Nat) (w:World) (hs:s.size<=600) (hP:PInv B s v O F w) (hF:F<=E) (hE:E<=s.size) (hO:O.length<=2000):
  Calls Tryz.prog 91 #[.int .i64 E,.pointer (some ⟨B+2,0,none⟩),.pointer (some ⟨B+1,0,none⟩),.pointer (some ⟨B,0,none⟩)] w fun e w'=>e=.returned (.tuple #[])∧Below B w w'∧∃ v',PInv B s v' (O++plainly (cut s.data.toList F E)) E w':=by
 obtain⟨T,hT⟩:∃ T,O++plainly (cut s.data.toList F E)=T:=⟨_,rfl⟩;have hTl:T.length<=4000:=by
  rw[<- hT,List.length_append,plainly_length,cut_length _ _ _ (by rw[ba_len]; exact hE)]; omega
 rw[hT];have HT:=hid hT;clear hT;go_enter Tryz.func91,Tryz.ntmps91
 go_wp2_with fail
 go_loopg [5] (E-F) (fun g n wr=>∃ (v1:Value) (O1:List UInt8) (F1:Nat),g=E-F1∧F1<=E∧PInv B s v1 O1 F1 wr∧Below B w wr∧Hid (O1++plainly (cut s.data.toList F1 E)=T))
 case atStart=>exact⟨v,O,F,rfl,hF,hP,Below.refl _ _,HT⟩
 case round=>
  obtain⟨v1,O1,F1,rfl,hF1,hP1,hB1,HR⟩:=hrel;clear hP HT hF hO;have cT:=cell_of_one hP1.txt;have cO:=cell_of_one hP1.out;have cF:=cell_of_one hP1.far;have fO:=free_of_one hP1.out;have fF:=free_of_one hP1.far
  by_cases hlt:F1<E
  ·have hO1:O1.length<=4000:=by have:=Z5N HR.out; omega
   obtain⟨n,hn⟩:∃ n,n=min (E-F1) 128:=⟨_,rfl⟩;have R:=hid (Z64 HR.out (by rw[ba_len]; exact hE) hlt hn)
   have mn:(if (128:Int)<E-F1 then 128 else (E:Int)-F1)=n:=by split <;> omega
   have n1:1<=n:=by omega
   have n2:n<=128:=by omega
   have n3:F1+n<=E:=by omega
   have n4:n<=E-F1:=by omega
   clear hn HR;have hlt':(F1:Int)<E:=by omega
   have u2:IntKind.u8.wrap ((n:Int)-1)=n-1:=by rw[IntKind.wrap_u8]; omega
   have hP2:=hP1.alloc (.cells #[.int .u8 ((n:Int)-1)] 5);have hB2:=hB1.alloc (by have:=hP1.size; omega) (.cells #[.int .u8 ((n:Int)-1)] 5)
   have hnew:=Wb wr ((n:Int)-1) (by omega) (by omega) 5
   have HH:=hid (And.intro hP2 (And.intro hB2 hnew));have HP:=hid hP1;clear hP2 hB2 hnew hP1;go_wp2_with (at_builtin; (refine Z9 _ rfl (.tmp 13) (.tmp 17) rfl (B+3) v1 O1 rfl HH.out.1.own ⟨wr.heap.size,0,none⟩ 1 [byt ((n:Int)-1)] rfl HH.out.2.2 (by simp) (by simp; omega) HH.out.1.size ?_; intro g2 m2 cap2 w2 hm2 hg2 hown2 hgrow2; obtain⟨cO2,fO2⟩:=HH.out.1.later hgrow2; have H2:=hid (And.intro hown2 hgrow2); clear hown2 hgrow2))
   have hP3:=HH.out.1.store H2.out.2 H2.out.1;have hB3:=HH.out.1.below (v':=.slice (some ⟨g2,0,none⟩) m2 cap2) HH.out.2.1 H2.out.2;generalize w2.setCell ⟨B+1,0,none⟩ (.slice (some ⟨g2,0,none⟩) m2 cap2)=X at hP3 hB3;clear HH H2 hB1 cT cO cF fO fF cO2 fO2 mn u2;have cT:=cell_of_one hP3.txt;have cO:=cell_of_one hP3.out;have cF:=cell_of_one hP3.far;have fO:=free_of_one hP3.out;have fF:=free_of_one hP3.far;have w1:IntKind.i64.wrap ((F1:Int)+n)=((F1+n:Nat):Int):=by rw[IntWalk.i64_in _ (by omega)]; omega
   obtain⟨G,hG⟩:∃ G,F1+n=G:=⟨_,rfl⟩;rw[hG] at w1;have g1:(F1:Int)<=G:=by omega
   have g3:(G:Int)<=s.size:=by omega
   have hsz:(s.extract F1 G).size=n:=by rw[Zh _ _ _ (by omega)]; omega
   have HP3:=hid hP3;have HS:=hid hsz;have HG:=hid hG;clear hP3 hsz hG;go_region_law (refine Ji rfl (.tmp 19) (.tmp 25) rfl (B+3) (.slice (some ⟨g2,0,none⟩) m2 cap2) (O1++[byt ((n:Int)-1)]) rfl HP3.out.drew.own (s.extract F1 G) rfl (by rw[HS.out]; omega) (by rw[HS.out]; simp; omega) HP3.out.drew.size ?_; intro g4 m4 cap4 w4 hm4 hg4 hown4 hgrow4; obtain⟨cO4,fO4⟩:=HP3.out.drew.later hgrow4)
   all_goals
    have hP5:=HP3.out.drew.store hgrow4 hown4;have hB5:=HP3.out.drew.below (v':=.slice (some ⟨g4,0,none⟩) m4 cap4) hB3.drew hgrow4;rw[ext_list] at hP5;generalize w4.setCell ⟨B+1,0,none⟩ (.slice (some ⟨g4,0,none⟩) m4 cap4)=Y at hP5 hB5;have R':=R;rw[HG.out] at R';clear hown4 hgrow4 cO4 fO4 HP3 hB3 cT cO cF fO fF R w1;have cF:=cell_of_one hP5.far;have fF:=free_of_one hP5.far;have w1:(F1:Int)+n=G:=by have:=HG.out; omega
    go_wp2
    go_roundg (E-G)
    case measure=>have:=HG.out; omega
    case rel=>exact⟨_,_,G,rfl,by have:=HG.out; omega,hP5.go G,hB5.setCell (by show B<=B+2; omega) _,R'⟩
  ·obtain rfl:F1=E:=by omega
   have ht:=HR.out;rw[Z6W,plainly_nil,List.append_nil] at ht;subst ht;have hge:¬ (F1:Int)<F1:=by omega
   go_wp2
   go_end0
   exact⟨rfl,hB1,v1,hP1⟩
end Go.Proofs.YtdnacpbgodooaaaGreatDoor
namespace Go.Proofs.YtdnacpbgodooaaaGreatDoor
open Go.RowKit Go.Lib
theorem Z35 (s:ByteArray) (w:World):PInv w.heap.size s (.slice none 0 0) [] 0 (((w.alloc (.cells #[.string s] 9)).alloc (.cells #[.slice none 0 0] 103)).alloc (.cells #[.int .i64 0] 3)):=by
 have z1:(w.alloc (.cells #[.string s] 9)).heap.size=w.heap.size+1:=by simp
 have z2:((w.alloc (.cells #[.string s] 9)).alloc (.cells #[.slice none 0 0] 103)).heap.size=w.heap.size+2:=by simp
 refine⟨?_,?_,?_,World.ownsRow_nil _ _ _ _⟩
 ·rw[Below.heap_alloc _ _ _ (by omega),Below.heap_alloc _ _ _ (by omega)]; exact heap_alloc_new w _
 ·rw[Below.heap_alloc _ _ _ (by omega),<- z1]; exact heap_alloc_new _ _
 ·rw[<- z2]; exact heap_alloc_new _ _
theorem Z6g (s:ByteArray) (w:World) (h:s.size<=600):
  Calls Tryz.prog 45 #[.string s] w fun e w'=>e=.returned (.tuple #[.string (str (packed s.data.toList)),.int .i64 0])∧Below w.heap.size w w':=by
 have h':¬ (600:Int)<s.size:=by omega
 have hp:(packed s.data.toList).length<=1300:=by have:=YA s.data.toList; rw[ba_len] at this; omega
 have HP:=hid hp;have hst:=Z35 s w;have hbl:Below w.heap.size w (((w.alloc (.cells #[.string s] 9)).alloc (.cells #[.slice none 0 0] 103)).alloc (.cells #[.int .i64 0] 3)):=(((Below.refl _ _).alloc (Nat.le_refl _) _).alloc (by simp) _).alloc (by simp; omega) _
 have HS:=hid (And.intro hst hbl);clear hp hst hbl;go_enter Tryz.func45,Tryz.ntmps45
 go_wp2_with fail
 go_loopw [7] (fun i wr=>∃ (v:Value) (O:List UInt8) (F I:Nat),i=.int .i64 I∧F<=I∧I<=s.size∧PInv w.heap.size s v O F wr∧Below w.heap.size w wr∧Hid (O++rest s.data.toList F I=packed s.data.toList)) (fun i _=>s.size-(intOf i).toNat)
 case atStart=>exact⟨_,[],0,0,rfl,Nat.le_refl _,Nat.zero_le _,HS.out.1,HS.out.2,rfl⟩
 case round=>
  obtain⟨v,O,F,I,rfl,hFI,hIs,hP,hB,HR⟩:=hrel;clear HS;have hO:O.length<=2000:=by have:=Z5N HR.out; have:=HP.out; omega
  have cT:=cell_of_one hP.txt;have HV:=hid hP
  by_cases hlt:I<s.size
  ·have hlt':(I:Int)<s.size:=by omega
   have hbd:=Z1t s.data.toList I (by rw[ba_len]; omega)
   rw[ba_len] at hbd;have hc:=fun wx=>Z16 s I wx (by unfold maxLen; omega) hIs
   by_cases h4:(best s.data.toList I).1<4
   ·have R:=hid (Z1M HR.out (by rw[ba_len]; exact hlt) h4)
    generalize best s.data.toList I=bb at h4 hc;have h4':(bb.1:Int)<4:=by omega
    have HC:=hid hc;clear hc hbd HR hP;go_wp2_with fail
    refine (HC.out _).mono ?_
    rintro _ _ ⟨rfl,q,rfl⟩;clear HC;go_wp2
    go_roundw
    case rel=>exact⟨v,O,F,I+1,by go_num,by omega,by omega,HV.out.drewN q,below_drewN hB q,R⟩
    case measure=>simp[intOf]; omega
   ·have R:=hid (Z1L HR.out (by rw[ba_len]; exact hlt) (by omega))
    have hl2:(O++plainly (cut s.data.toList F I)).length<=2000:=by have:=HP.out; rw[<- R.out] at this; simp only[List.length_append] at this ⊢; omega
    generalize best s.data.toList I=bb at h4 hc hbd R;obtain⟨b1,b2,b3,b4,b5⟩:=hbd;clear b5 HR;have h4':¬ (bb.1:Int)<4:=by omega
    have u2:IntKind.u8.wrap (124+(bb.1:Int))=124+bb.1:=by rw[IntKind.wrap_u8]; omega
    have u3:IntKind.u8.wrap (bb.2:Int)=bb.2:=by rw[IntKind.wrap_u8]; omega
    have HC:=hid hc;clear hc hP;go_wp2_with fail
    refine (HC.out _).mono ?_
    rintro _ _ ⟨rfl,q,rfl⟩;clear HC;go_wp2_with fail
    refine (UY w.heap.size s v O F I (wr.drewN q) h (HV.out.drewN q) hFI hIs hO).mono ?_
    rintro _ w2 ⟨rfl,hB2,v2,hP2⟩;have hB3:=(below_drewN hB q).trans hB2;generalize O++plainly (cut s.data.toList F I)=O2 at hP2 hl2 R;clear hB2 hB HV cT;have cT:=cell_of_one hP2.txt;have cO:=cell_of_one hP2.out;have fO:=free_of_one hP2.out;have cF:=cell_of_one hP2.far;have fF:=free_of_one hP2.far;have hP3:=hP2.alloc (.cells #[.int .u8 (124+(bb.1:Int)),.int .u8 (bb.2:Int)] 5);have hB4:=hB3.alloc (by have:=hP2.size; omega) (.cells #[.int .u8 (124+(bb.1:Int)),.int .u8 (bb.2:Int)] 5)
    have hnew:=Z12 w2 (124+(bb.1:Int)) bb.2 (by omega) (by omega) (by omega) (by omega) 5
    have HH:=hid (And.intro hP3 (And.intro hB4 hnew));clear hP3 hB4 hnew hP2 hB3;go_wp2_with (at_builtin; (refine Z9 _ rfl (.tmp 31) (.tmp 37) rfl (w.heap.size+3) v2 O2 rfl HH.out.1.own ⟨w2.heap.size,0,none⟩ 2 [byt (124+(bb.1:Int)),byt (bb.2:Int)] rfl HH.out.2.2 (by simp) (by simp; omega) HH.out.1.size ?_; intro g5 m5 cap5 w5 hm5 hg5 hown5 hgrow5; obtain⟨cO5,fO5⟩:=HH.out.1.later hgrow5; obtain⟨cF5,fF5⟩:=HH.out.1.later2 hgrow5; have H5:=hid (And.intro hown5 hgrow5); clear hown5 hgrow5))
    go_roundw
    case rel=>
     have k1:=(HH.out.1.store H5.out.2 H5.out.1).go (I+bb.1);have k2:=(HH.out.1.below (v':=.slice (some ⟨g5,0,none⟩) m5 cap5) HH.out.2.1 H5.out.2).setCell (p:=⟨w.heap.size+2,0,none⟩) (by show w.heap.size<=w.heap.size+2; omega) (.int .i64 ((I+bb.1:Nat):Int))
     rw[Int.natCast_add] at k1 k2;exact⟨_,_,_,I+bb.1,by go_num,Nat.le_refl _,by omega,k1,k2,R⟩
    case measure=>simp[intOf]; omega
  ·obtain rfl:I=s.size:=by omega
   have R:=Z4h HR.out (by rw[ba_len]; omega)
   rw[ba_len] at R;have HR':=hid R;clear R HR hP hlt;have hnl:¬ (s.size:Int)<s.size:=by omega
   go_wp2_with fail
   refine (UY w.heap.size s v O F s.size wr h HV.out hFI (Nat.le_refl _) hO).mono ?_
   rintro _ w2 ⟨rfl,hB2,v2,hP2⟩;have cO:=cell_of_one hP2.out;have hcv:=Wv hP2.own;have HH:=hid (hB.trans hB2);clear cT hP2 hB hB2 HV;go_wp2
   go_ret2
   exact⟨Z1I (by rw[HR'.out]),HH.out⟩
end Go.Proofs.YtdnacpbgodooaaaGreatDoor
namespace Go.Proofs.YtdnacpbgodooaaaGreatDoor
open Go.RowKit Go.Lib
theorem JH (base g m cap:Nat) (O:List UInt8) (d n:Nat) (w:World) (hown:Zz w base (.slice (some ⟨g,0,none⟩) m cap) O) (hbase:base<=w.heap.size) (hd:1<=d) (hdO:d<=O.length) (hO:O.length<=600) (hn:n<=600):
  Calls Tryz.prog 195 #[.slice (some ⟨g,0,none⟩) m cap,.int .i64 d,.int .i64 n] w fun e w'=>∃ g' m' cap',e=.returned (.slice (some ⟨g',0,none⟩) m' cap')∧Zz w' base (.slice (some ⟨g',0,none⟩) m' cap') (piece O d n)∧Below base w w':=by
 go_enter Tryz.func195,Tryz.ntmps195
 go_wp2_with fail
 go_loopw [0,8] (fun v i wr=>∃ (g1 m1 cap1 k:Nat),v=.slice (some ⟨g1,0,none⟩) m1 cap1∧i=.int .i64 k∧k<=n∧Hid (Zz wr base (.slice (some ⟨g1,0,none⟩) m1 cap1) (piece O d k))∧Below base w wr) (fun _ i _=>n-(intOf i).toNat)
 case atStart=>exact⟨g,m,cap,0,rfl,rfl,Nat.zero_le _,hown,Below.refl _ _⟩
 case round=>
  obtain⟨g1,m1,cap1,k,rfl,rfl,hk,HO,hB⟩:=hrel;clear hown
  by_cases hlt:k<n
  ·obtain⟨hm1,hcap1,hg1⟩:=VF HO.out
   have hl:=Xf O d k;obtain⟨J,hJ⟩:∃ J:Nat,m1-d=J:=⟨_,rfl⟩;have hc:=Z1Q HO.out J (by omega)
   have hpc:piece O d (k+1)=piece O d k++[bat (piece O d k) J]:=by rw[piece,<- hJ,hm1]
   have HPC:=hid hpc;generalize piece O d k=P at HO hc hl hm1 HPC hcap1;generalize bat P J=c at hc HPC;have j1:(m1:Int)-d=J:=by omega
   have j2:J<m1:=by omega
   have hc':(c.toNat:Int)<256:=by have:=c.toNat_lt; omega
   have j3:m1<=1200:=by omega
   have hlt':(k:Int)<n:=by omega
   have hs:=hB.size;have HH:=hid (And.intro (ownsB_alloc HO.out (.cells #[.int .u8 (c.toNat:Int)] 5)) (And.intro (hB.alloc (by omega) (.cells #[.int .u8 (c.toNat:Int)] 5)) (Z1V wr c 5)))
   have hPl:P.length<=1200:=by omega
   clear HO hB hJ hm1 hl hcap1 hg1 hpc;go_wp2_with (at_builtin; (refine Z9 _ rfl (.tmp 10) (.tmp 18) rfl base _ P rfl HH.out.1 ⟨wr.heap.size,0,none⟩ 1 [c] rfl HH.out.2.2 (by simp) (by simp; omega) (by simp; omega) ?_; intro g5 m5 cap5 w5 hm5 hg5 hown5 hgrow5; have H5:=hid (And.intro hown5 hgrow5); clear hown5 hgrow5))
   go_roundw
   case rel=>
    refine⟨g5,m5,cap5,k+1,rfl,by go_num,by omega,?_,Xy HH.out.1 (Nat.le_refl _) (by simp; omega) HH.out.2.1 H5.out.2⟩
    show Zz _ _ _ _
    rw[HPC.out]; exact H5.out.1
   case measure=>simp[intOf]; omega
  ·obtain rfl:k=n:=by omega
   clear hk hlt;have hlt':¬ (k:Int)<k:=by omega
   go_wp2
   go_ret
   exact⟨g1,m1,cap1,rfl,HO.out,hB⟩
end Go.Proofs.YtdnacpbgodooaaaGreatDoor
namespace Go.Proofs.YtdnacpbgodooaaaGreatDoor
open Go.RowKit Go.Lib
theorem Z0Z (c:UInt8) (w:World) (h:c.toNat<128):Calls Tryz.prog 159 #[.int .u8 c.toNat] w fun e w'=>e=.returned (.int .i64 ((c.toNat:Int)+2))∧w'=w:=by
 have h':(c.toNat:Int)<128:=by omega
 go_enter Tryz.func159,Tryz.ntmps159
 go_wp2
 go_ret
 exact⟨rfl,rfl⟩
theorem Z10 (c:UInt8) (w:World) (h:128<=c.toNat):Calls Tryz.prog 159 #[.int .u8 c.toNat] w fun e w'=>e=.returned (.int .i64 2)∧w'=w:=by
 have h':¬ (c.toNat:Int)<128:=by omega
 go_enter Tryz.func159,Tryz.ntmps159
 go_wp2
 go_ret
 exact⟨rfl,rfl⟩
theorem Z37 (base:Nat) (ao:Option Addr) (m cap:Nat) (O:List UInt8) (p:ByteArray) (c:UInt8) (w:World) (hown:Zz w base (.slice ao m cap) O) (hm:m=O.length) (hbase:base<=w.heap.size) (z0:0<p.size) (z1:1<p.size) (hp:p.size=c.toNat+2) (hp0:p[0]'z0=c) (hc:c.toNat<128) (h6:O.length+(c.toNat+1)<=600):
  Calls Tryz.prog 160 #[.slice ao m cap,.string p] w fun e w'=>∃ g' m' cap',e=.returned (.tuple #[.slice (some ⟨g',0,none⟩) m' cap',.int .i64 0])∧Zz w' base (.slice (some ⟨g',0,none⟩) m' cap') (O++(p.extract 1 p.size).data.toList)∧Below base w w':=by
 have hz:(p.extract 1 p.size).size=c.toNat+1:=by rw[Zh _ _ _ (Nat.le_refl _)]; omega
 have hpb:p.size<=600:=by omega
 have HZ:=hid hz;have HO:=hid hown;have HP:=hid hp;have HM:=hid hm;have hc':(c.toNat:Int)<128:=by omega
 clear hz hown hp hm;go_enter Tryz.func160,Tryz.ntmps160
 go_wp2_with (at_builtin; (refine ZL _ rfl (.tmp 10) (.tmp 12) rfl base _ O rfl HO.out (p.extract 1 p.size) rfl (by have:=HZ.out; omega) (by have:=HZ.out; omega) hbase ?_; intro g5 m5 cap5 w5 hm5 hg5 hown5 hgrow5; have hm6:m5<=600:=(by have:=hm5.out; rw[List.length_append,ba_len] at this; have:=HZ.out; omega); have H5:=hid (And.intro hown5 hgrow5); clear hown5 hgrow5))
 go_ret2
 exact⟨g5,m5,cap5,rfl,H5.out.1,Xy HO.out (Nat.le_refl _) hbase (Below.refl _ _) H5.out.2⟩
theorem UJ (base:Nat) (ao:Option Addr) (m cap:Nat) (O:List UInt8) (p:ByteArray) (c:UInt8) (w:World) (hown:Zz w base (.slice ao m cap) O) (hm:m=O.length) (hbase:base<=w.heap.size) (hO:O.length<=600) (z0:0<p.size) (z1:1<p.size) (hp:p.size=c.toNat+2) (hp0:p[0]'z0=c) (hc:c.toNat<128) (h6:600<O.length+(c.toNat+1)):
  Calls Tryz.prog 160 #[.slice ao m cap,.string p] w fun e w'=>e=.returned (.tuple #[.slice none 0 0,.int .i64 1])∧Below base w w':=by
 have hz:(p.extract 1 p.size).size=c.toNat+1:=by rw[Zh _ _ _ (Nat.le_refl _)]; omega
 have hpb:p.size<=600:=by omega
 have HZ:=hid hz;have HO:=hid hown;have HP:=hid hp;have HM:=hid hm;have hc':(c.toNat:Int)<128:=by omega
 clear hz hown hp hm;go_enter Tryz.func160,Tryz.ntmps160
 go_wp2_with (at_builtin; (refine ZL _ rfl (.tmp 10) (.tmp 12) rfl base _ O rfl HO.out (p.extract 1 p.size) rfl (by have:=HZ.out; omega) (by have:=HZ.out; omega) hbase ?_; intro g5 m5 cap5 w5 hm5 hg5 hown5 hgrow5; have hm6:600<m5:=(by have:=hm5.out; rw[List.length_append,ba_len] at this; have:=HZ.out; omega); have H5:=hid (And.intro hown5 hgrow5); clear hown5 hgrow5))
 go_ret2
 exact⟨rfl,Xy HO.out (Nat.le_refl _) hbase (Below.refl _ _) H5.out.2⟩
theorem Z4r (base:Nat) (ao:Option Addr) (m cap:Nat) (O:List UInt8) (p:ByteArray) (c:UInt8) (w:World) (hown:Zz w base (.slice ao m cap) O) (hm:m=O.length) (z0:0<p.size) (z1:1<p.size) (d:UInt8) (hp:p.size=2) (hp0:p[0]'z0=c) (hp1:p[1]'z1=d) (hc:128<=c.toNat) (hf:d.toNat=0∨O.length<d.toNat):
  Calls Tryz.prog 160 #[.slice ao m cap,.string p] w fun e w'=>e=.returned (.tuple #[.slice none 0 0,.int .i64 4])∧Below base w w':=by
 have hc':¬ (c.toNat:Int)<128:=by omega
 have hd2:(d.toNat:Int)<=255:=by have:=d.toNat_lt; omega
 have hpb:p.size<=600:=by omega
 have HO:=hid hown;clear hown hp
 by_cases h0:d.toNat=0
 ·have h0':((d.toNat:Int)==0)=true:=beq_iff_eq.2 (by omega)
  clear hf h0 hm;go_enter Tryz.func160,Tryz.ntmps160
  go_wp2
  go_ret2
  exact⟨rfl,Below.refl _ _⟩
 ·have h0':((d.toNat:Int)==0)=false:=beq_eq_false_iff_ne.2 (by omega)
  have h1:(m:Int)<d.toNat:=by omega
  clear hf h0 hm;go_enter Tryz.func160,Tryz.ntmps160
  go_wp2
  go_ret2
  exact⟨rfl,Below.refl _ _⟩
theorem Z38 (base:Nat) (ao:Option Addr) (m cap:Nat) (O:List UInt8) (p:ByteArray) (c:UInt8) (w:World) (hown:Zz w base (.slice ao m cap) O) (hm:m=O.length) (hbase:base<=w.heap.size) (hO:O.length<=600) (z0:0<p.size) (z1:1<p.size) (d:UInt8) (hp:p.size=2) (hp0:p[0]'z0=c) (hp1:p[1]'z1=d) (hc:128<=c.toNat) (hf:¬ (d.toNat=0∨O.length<d.toNat)) (h6:O.length+(c.toNat-124)<=600):
  Calls Tryz.prog 160 #[.slice ao m cap,.string p] w fun e w'=>∃ g' m' cap',e=.returned (.tuple #[.slice (some ⟨g',0,none⟩) m' cap',.int .i64 0])∧Zz w' base (.slice (some ⟨g',0,none⟩) m' cap') (piece O d.toNat (c.toNat-124))∧Below base w w':=by
 have hc':¬ (c.toNat:Int)<128:=by omega
 have hd2:(d.toNat:Int)<=255:=by have:=d.toNat_lt; omega
 have hc2:(c.toNat:Int)<=255:=by have:=c.toNat_lt; omega
 have hpb:p.size<=600:=by omega
 obtain⟨g,cap0,hv,_⟩:=Zb hown (by omega)
 obtain⟨rfl,-,rfl⟩:ao=some ⟨g,0,none⟩∧m=O.length∧cap=cap0:=by simpa using hv
 have h0':((d.toNat:Int)==0)=false:=beq_eq_false_iff_ne.2 (by omega)
 have h1:¬ (m:Int)<d.toNat:=by omega
 have hx:=JH base g m cap O d.toNat (c.toNat-124) w hown hbase (by omega) (by omega) hO (by omega)
 rw[show ((c.toNat-124:Nat):Int)=(c.toNat:Int)-124 by omega] at hx
 have HX:=hid hx;have HM:=hid hm;have hl:=Xf O d.toNat (c.toNat-124);have HL:=hid hl;clear hown hp hf hx hm hl hv;go_enter Tryz.func160,Tryz.ntmps160
 go_wp2_with fail
 refine HX.out.mono ?_
 rintro _ w2 ⟨g5,m5,cap5,rfl,hown5,hb5⟩;have hm6:m5<=600:=by have:=(VF hown5).1; rw[this,HL.out]; exact h6
 have H5:=hid (And.intro hown5 hb5);clear hown5 hb5;go_wp2
 go_ret2
 exact⟨g5,m5,cap5,rfl,H5.out.1,H5.out.2⟩
theorem UK (base:Nat) (ao:Option Addr) (m cap:Nat) (O:List UInt8) (p:ByteArray) (c:UInt8) (w:World) (hown:Zz w base (.slice ao m cap) O) (hm:m=O.length) (hbase:base<=w.heap.size) (hO:O.length<=600) (z0:0<p.size) (z1:1<p.size) (d:UInt8) (hp:p.size=2) (hp0:p[0]'z0=c) (hp1:p[1]'z1=d) (hc:128<=c.toNat) (hf:¬ (d.toNat=0∨O.length<d.toNat)) (h6:600<O.length+(c.toNat-124)):
  Calls Tryz.prog 160 #[.slice ao m cap,.string p] w fun e w'=>e=.returned (.tuple #[.slice none 0 0,.int .i64 1])∧Below base w w':=by
 have hc':¬ (c.toNat:Int)<128:=by omega
 have hd2:(d.toNat:Int)<=255:=by have:=d.toNat_lt; omega
 have hc2:(c.toNat:Int)<=255:=by have:=c.toNat_lt; omega
 have hpb:p.size<=600:=by omega
 obtain⟨g,cap0,hv,_⟩:=Zb hown (by omega)
 obtain⟨rfl,-,rfl⟩:ao=some ⟨g,0,none⟩∧m=O.length∧cap=cap0:=by simpa using hv
 have h0':((d.toNat:Int)==0)=false:=beq_eq_false_iff_ne.2 (by omega)
 have h1:¬ (m:Int)<d.toNat:=by omega
 have hx:=JH base g m cap O d.toNat (c.toNat-124) w hown hbase (by omega) (by omega) hO (by omega)
 rw[show ((c.toNat-124:Nat):Int)=(c.toNat:Int)-124 by omega] at hx
 have HX:=hid hx;have HM:=hid hm;have hl:=Xf O d.toNat (c.toNat-124);have HL:=hid hl;clear hown hp hf hx hm hl hv;go_enter Tryz.func160,Tryz.ntmps160
 go_wp2_with fail
 refine HX.out.mono ?_
 rintro _ w2 ⟨g5,m5,cap5,rfl,hown5,hb5⟩;have hm6:600<m5:=by have:=(VF hown5).1; rw[this,HL.out]; exact h6
 have H5:=hid (And.intro hown5 hb5);clear hown5 hb5;go_wp2
 go_ret2
 exact⟨rfl,H5.out.2⟩
end Go.Proofs.YtdnacpbgodooaaaGreatDoor
namespace Go.Proofs.YtdnacpbgodooaaaGreatDoor
open Go.RowKit Go.Lib
theorem Z5a (s:ByteArray) (a b j:Nat) (hb:b<=s.size) (hj:a+j<b):(s.extract a b)[j]'(by rw[ByteArray.size_extract]; omega)=s[a+j]:=by
 rw[ByteArray.getElem_extract]
theorem Y8 {a b:ByteArray} {k:IntKind} {n m:Int} (h:a=b) (h':n=m):Ending.returned (.tuple #[.string a,.int k n])=.returned (.tuple #[.string b,.int k m]):=by rw[h,h']
theorem Z2H (s:ByteArray) (w:World) (hs:s.size<=maxLen):
  Calls Tryz.prog 104 #[.string s] w fun e w'=>e=.returned (.tuple #[.string (str (unp [] s.data.toList).1),.int .i64 (unp [] s.data.toList).2])∧Below w.heap.size w w':=by
 unfold maxLen at hs;obtain⟨U,hU⟩:∃ U,unp [] s.data.toList=U:=⟨_,rfl⟩;rw[hU];have HU:Hid (unpAt [] s.data.toList 0=U):=hU;clear hU;go_enter Tryz.func104,Tryz.ntmps104
 go_wp2_with fail
 go_loopw [4,5] (fun v i wr=>∃ (ao:Option Addr) (m cap I:Nat) (O:List UInt8),v=.slice ao m cap∧i=.int .i64 I∧I<=s.size∧Hid (m=O.length)∧Hid (O.length<=600)∧Hid (Zz wr w.heap.size (.slice ao m cap) O)∧Below w.heap.size w wr∧Hid (unpAt O s.data.toList I=U)) (fun _ i _=>s.size-(intOf i).toNat)
 case atStart=>exact⟨none,0,0,0,[],rfl,rfl,Nat.zero_le _,rfl,by show _<=_; simp,World.ownsRow_nil _ _ _ _,Below.refl _ _,HU⟩
 case round=>
  obtain⟨ao,m,cap,I,O,rfl,rfl,hI,HM,HO,HW,hB,HR⟩:=hrel;clear HU
  by_cases hlt:I<s.size
  ·have hlt':(I:Int)<s.size:=by omega
   have hb0:=XY s I hlt;obtain⟨c,hc⟩:∃ c,s[I]=c:=⟨_,rfl⟩;rw[hc] at hb0;have HB:=hid hb0;clear hb0;have hl:s.data.toList.length=s.size:=ba_len s;have HL:=hid hl;clear hl
   by_cases hc1:c.toNat<128
   ·have hc1':(c.toNat:Int)<128:=by omega
    have HC:=hid (fun wx=>Z0Z c wx hc1)
    by_cases hsh:s.size<I+2+c.toNat
    ·have h1:(s.size:Int)-I<c.toNat+2:=by omega
     have R:Hid (U=([],5)):=by
      show _=_
      rw[<- HR.out,Uo O _ I (by rw[HL.out]; exact hlt) (by rw[HB.out]; exact hc1) (by rw[HL.out,HB.out]; exact hsh)]
     clear HR HB hsh hc1;go_wp2_with fail
     refine (HC.out _).mono ?_
     rintro _ _ ⟨rfl,rfl⟩;clear HC;go_wp2
     go_ret2
     exact⟨Y8 (by rw[R.out]; rfl) (by rw[R.out]),hB⟩
    ·obtain⟨S,hS⟩:∃ S,c.toNat+2=S:=⟨_,rfl⟩
     obtain⟨J,hJ⟩:∃ J,I+S=J:=⟨_,rfl⟩;have hps:(s.extract I J).size=c.toNat+2:=by rw[Zh _ _ _ (by omega)]; omega
     have z0:0<(s.extract I J).size:=by omega
     have z1:1<(s.extract I J).size:=by omega
     have hp0:(s.extract I J)[0]'z0=c:=by rw[Z5a s I J 0 (by omega) (by omega)]; exact hc
     rw[show ((c.toNat:Int)+2)=(S:Int) by omega] at HC
     have j1:(I:Int)+S=J:=by omega
     have j2:(J:Int)<=s.size:=by omega
     have j3:¬ (s.size:Int)-I<S:=by omega
     have j4:(I:Int)<=J:=by omega
     have hbs:=hB.size;have hcut:cut (s.extract I J).data.toList 1 (c.toNat+2)=cut s.data.toList (I+1) (I+2+c.toNat):=by
      rw[ext_list,cut,cut,cut,List.take_drop,List.drop_drop,List.take_take]
      congr 2; omega
     by_cases h6:O.length+(c.toNat+1)<=600
     ·have hx:=Z37 w.heap.size ao m cap O (s.extract I J) c wr HW.out HM.out hbs z0 z1 hps hp0 hc1 h6
      rw[ext_list (s.extract I J),hps,hcut] at hx;have R:Hid (unpAt (O++cut s.data.toList (I+1) (I+2+c.toNat)) s.data.toList J=U):=by
       show _=_
       have:=Uq O s.data.toList I (by rw[HL.out]; exact hlt) (by rw[HB.out]; exact hc1) (by rw[HL.out,HB.out]; omega) (by rw[HB.out]; exact h6)
       rw[HB.out] at this;rw[<- HR.out,this,show I+2+c.toNat=J by omega]
      have L:Hid ((O++cut s.data.toList (I+1) (I+2+c.toNat)).length<=600):=by
       show _<=_
       rw[List.length_append,cut_length _ _ _ (by rw[HL.out]; omega)]; omega
      generalize O++cut s.data.toList (I+1) (I+2+c.toNat)=O2 at hx R L;have HX:=hid hx;have HJ:=hid (And.intro hS hJ);clear hx hcut hp0 z0 z1 hps hsh hc1 hS hJ HR HB;go_wp2_with fail
      refine (HC.out _).mono ?_
      rintro _ _ ⟨rfl,rfl⟩;clear HC;go_wp2_with fail
      refine HX.out.mono ?_
      rintro _ w2 ⟨g5,m5,cap5,rfl,hown5,hb5⟩;have H5:=hid (And.intro hown5 (hB.trans hb5));clear hown5 hb5 hB HX;go_wp2
      go_roundw
      case rel=>exact⟨some ⟨g5,0,none⟩,m5,cap5,J,O2,rfl,rfl,by omega,(VF H5.out.1).1,L,H5.out.1,H5.out.2,R⟩
      case measure=>have:=HJ.out; simp[intOf]; omega
     ·have hx:=UJ w.heap.size ao m cap O (s.extract I J) c wr HW.out HM.out hbs HO.out z0 z1 hps hp0 hc1 (by omega)
      have R:Hid (U=([],1)):=by
       show _=_
       rw[<- HR.out,Tu O s.data.toList I (by rw[HL.out]; exact hlt) (by rw[HB.out]; exact hc1) (by rw[HL.out,HB.out]; omega) (by rw[HB.out]; omega)]
      have HX:=hid hx;clear hx hcut hp0 z0 z1 hps hsh hc1 hS hJ HR HB h6;go_wp2_with fail
      refine (HC.out _).mono ?_
      rintro _ _ ⟨rfl,rfl⟩;clear HC;go_wp2_with fail
      refine HX.out.mono ?_
      rintro _ w2 ⟨rfl,hb5⟩;have H5:=hid (hB.trans hb5);clear hb5 hB HX;go_wp2
      go_ret2
      exact⟨Y8 (by rw[R.out]; rfl) (by rw[R.out]),H5.out⟩
   ·have HC:=hid (fun wx=>Z10 c wx (by omega))
    by_cases hsh:s.size<I+2
    ·have h1:(s.size:Int)-I<2:=by omega
     have R:Hid (U=([],5)):=by
      show _=_
      rw[<- HR.out,VR O _ I (by rw[HL.out]; exact hlt) (by rw[HB.out]; omega) (by rw[HL.out]; exact hsh)]
     clear HR HB hsh hc1;go_wp2_with fail
     refine (HC.out _).mono ?_
     rintro _ _ ⟨rfl,rfl⟩;clear HC;go_wp2
     go_ret2
     exact⟨Y8 (by rw[R.out]; rfl) (by rw[R.out]),hB⟩
    ·obtain⟨J,hJ⟩:∃ J,I+2=J:=⟨_,rfl⟩
     have hps:(s.extract I J).size=2:=by rw[Zh _ _ _ (by omega)]; omega
     have z0:0<(s.extract I J).size:=by omega
     have z1:1<(s.extract I J).size:=by omega
     obtain⟨d,hd⟩:∃ d,s[I+1]'(by omega)=d:=⟨_,rfl⟩
     have hb1:=XY s (I+1) (by omega)
     rw[hd] at hb1;have HD:=hid hb1;have hp0:(s.extract I J)[0]'z0=c:=by rw[Z5a s I J 0 (by omega) (by omega)]; exact hc
     have hp1:(s.extract I J)[1]'z1=d:=by rw[Z5a s I J 1 (by omega) (by omega)]; exact hd
     have j1:(I:Int)+2=J:=by omega
     have j2:(J:Int)<=s.size:=by omega
     have j3:¬ (s.size:Int)-I<2:=by omega
     have j4:(I:Int)<=J:=by omega
     have hbs:=hB.size
     by_cases hf:d.toNat=0∨O.length<d.toNat
     ·have hx:=Z4r w.heap.size ao m cap O (s.extract I J) c wr HW.out HM.out z0 z1 d hps hp0 hp1 (by omega) hf
      have R:Hid (U=([],4)):=by
       show _=_
       rw[<- HR.out,Tv O s.data.toList I (by rw[HB.out]; omega) (by rw[HL.out]; omega) (by rw[HD.out]; exact hf)]
      have HX:=hid hx;clear hx hp0 hp1 z0 z1 hps hsh hc1 hJ HR HB hf hb1 HD hd;go_wp2_with fail
      refine (HC.out _).mono ?_
      rintro _ _ ⟨rfl,rfl⟩;clear HC;go_wp2_with fail
      refine HX.out.mono ?_
      rintro _ w2 ⟨rfl,hb5⟩;have H5:=hid (hB.trans hb5);clear hb5 hB HX;go_wp2
      go_ret2
      exact⟨Y8 (by rw[R.out]; rfl) (by rw[R.out]),H5.out⟩
     ·by_cases h6:O.length+(c.toNat-124)<=600
      ·have hx:=Z38 w.heap.size ao m cap O (s.extract I J) c wr HW.out HM.out hbs HO.out z0 z1 d hps hp0 hp1 (by omega) hf h6
       have R:Hid (unpAt (piece O d.toNat (c.toNat-124)) s.data.toList J=U):=by
        show _=_
        have:=Ur O s.data.toList I (by rw[HB.out]; omega) (by rw[HL.out]; omega) (by rw[HD.out]; exact hf) (by rw[HB.out]; exact h6)
        rw[HB.out,HD.out] at this;rw[<- HR.out,this,hJ]
       have L:Hid ((piece O d.toNat (c.toNat-124)).length<=600):=by
        show _<=_
        rw[Xf]; exact h6
       generalize piece O d.toNat (c.toNat-124)=O2 at hx R L;have HX:=hid hx;have HJ:=hid hJ;clear hx hp0 hp1 z0 z1 hps hsh hc1 hJ HR HB hf hb1 HD hd;go_wp2_with fail
       refine (HC.out _).mono ?_
       rintro _ _ ⟨rfl,rfl⟩;clear HC;go_wp2_with fail
       refine HX.out.mono ?_
       rintro _ w2 ⟨g5,m5,cap5,rfl,hown5,hb5⟩;have H5:=hid (And.intro hown5 (hB.trans hb5));clear hown5 hb5 hB HX;go_wp2
       go_roundw
       case rel=>exact⟨some ⟨g5,0,none⟩,m5,cap5,J,O2,rfl,rfl,by omega,(VF H5.out.1).1,L,H5.out.1,H5.out.2,R⟩
       case measure=>have:=HJ.out; simp[intOf]; omega
      ·have hx:=UK w.heap.size ao m cap O (s.extract I J) c wr HW.out HM.out hbs HO.out z0 z1 d hps hp0 hp1 (by omega) hf (by omega)
       have R:Hid (U=([],1)):=by
        show _=_
        rw[<- HR.out,Un O s.data.toList I (by rw[HB.out]; omega) (by rw[HL.out]; omega) (by rw[HD.out]; exact hf) (by rw[HB.out]; omega)]
       have HX:=hid hx;clear hx hp0 hp1 z0 z1 hps hsh hc1 hJ HR HB hf hb1 HD hd h6;go_wp2_with fail
       refine (HC.out _).mono ?_
       rintro _ _ ⟨rfl,rfl⟩;clear HC;go_wp2_with fail
       refine HX.out.mono ?_
       rintro _ w2 ⟨rfl,hb5⟩;have H5:=hid (hB.trans hb5);clear hb5 hB HX;go_wp2
       go_ret2
       exact⟨Y8 (by rw[R.out]; rfl) (by rw[R.out]),H5.out⟩
  ·have R:Hid (U=(O,0)):=by
    show _=_
    rw[<- HR.out,Jc O _ I (by rw[ba_len]; omega)]
   have hge:¬ (I:Int)<s.size:=by omega
   have hcv:=Wv HW.out;clear HR hlt;go_wp2
   go_ret2
   exact⟨Y8 (by rw[R.out]) (by rw[R.out]),hB⟩
end Go.Proofs.YtdnacpbgodooaaaGreatDoor
namespace Go.Proofs.YtdnacpbgodooaaaGreatDoor
open Go.RowKit Go.Lib
theorem Tf (s:ByteArray) (w:World) (hs:s.size<=140737488355328):
  Calls Tryz.prog 72 #[.string s] w fun e w'=>e=.returned (.tuple #[.string (str (unp [] s.data.toList).1),.int .i64 (unp [] s.data.toList).2])∧Below w.heap.size w w':=by
 obtain⟨U,hU⟩:∃ U,unp [] s.data.toList=U:=⟨_,rfl⟩;rw[hU];have HU:Hid (unpAt [] s.data.toList 0=U):=hU;clear hU;go_enter Tryz.func72,Tryz.ntmps72
 go_wp2_with fail
 go_loopw [4,5] (fun v i wr=>∃ (ao:Option Addr) (m cap I:Nat) (O:List UInt8),v=.slice ao m cap∧i=.int .i64 I∧I<=s.size∧Hid (m=O.length)∧Hid (O.length<=600)∧Hid (Zz wr w.heap.size (.slice ao m cap) O)∧Below w.heap.size w wr∧Hid (unpAt O s.data.toList I=U)) (fun _ i _=>s.size-(intOf i).toNat)
 case atStart=>exact⟨none,0,0,0,[],rfl,rfl,Nat.zero_le _,rfl,by show _<=_; simp,World.ownsRow_nil _ _ _ _,Below.refl _ _,HU⟩
 case round=>
  obtain⟨ao,m,cap,I,O,rfl,rfl,hI,HM,HO,HW,hB,HR⟩:=hrel;clear HU
  by_cases hlt:I<s.size
  ·have hlt':(I:Int)<s.size:=by omega
   have hb0:=XY s I hlt;obtain⟨c,hc⟩:∃ c,s[I]=c:=⟨_,rfl⟩;rw[hc] at hb0;have HB:=hid hb0;clear hb0;have HL:=hid (ba_len s);have hcb:(c.toNat:Int)<=255:=by have:=c.toNat_lt; omega
   have hbs:=hB.size
   by_cases hc1:c.toNat<128
   ·have hc1':(c.toNat:Int)<128:=by omega
    by_cases hsh:s.size<I+2+c.toNat
    ·have h1:(s.size:Int)<I+2+c.toNat:=by omega
     have R:Hid (U=([],5)):=by
      show _=_
      rw[<- HR.out,Uo O _ I (by rw[HL.out]; exact hlt) (by rw[HB.out]; exact hc1) (by rw[HL.out,HB.out]; exact hsh)]
     clear HR HB hsh hc1;go_wp2
     go_ret2
     exact⟨Y8 (by rw[R.out]; rfl) (by rw[R.out]),hB⟩
    ·obtain⟨J,hJ⟩:∃ J,I+2+c.toNat=J:=⟨_,rfl⟩
     obtain⟨K,hK⟩:∃ K,I+1=K:=⟨_,rfl⟩;have hps:(s.extract K J).size=c.toNat+1:=by rw[Zh _ _ _ (by omega)]; omega
     have j1:(I:Int)+2+c.toNat=J:=by omega
     have j2:(J:Int)<=s.size:=by omega
     have j5:(I:Int)+1=K:=by omega
     have j4:(K:Int)<=J:=by omega
     have HP:=hid hps;have HJ:=hid (And.intro hJ hK)
     by_cases h6:O.length+(c.toNat+1)<=600
     ·have R:Hid (unpAt (O++(s.extract K J).data.toList) s.data.toList J=U):=by
       show _=_
       have:=Uq O s.data.toList I (by rw[HL.out]; exact hlt) (by rw[HB.out]; exact hc1) (by rw[HL.out,HB.out]; omega) (by rw[HB.out]; exact h6)
       rw[HB.out] at this;rw[<- HR.out,this,hJ,ext_list,hK]
      clear hps hsh hc1 hJ hK HR HB;go_wp2_with (at_builtin; (refine ZL _ rfl (.tmp 26) (.tmp 34) rfl w.heap.size _ O rfl HW.out (s.extract K J) rfl (by have:=HP.out; omega) (by have:=HP.out; omega) hbs ?_; intro g5 m5 cap5 w5 hm5 hg5 hown5 hgrow5; have hm6:m5<=600:=(by have:=hm5.out; rw[List.length_append,ba_len] at this; have:=HP.out; omega); have H5:=hid (And.intro hown5 (Xy HW.out (Nat.le_refl _) hbs hB hgrow5)); clear hown5 hgrow5))
      go_roundw
      case rel=>exact⟨some ⟨g5,0,none⟩,m5,cap5,J,_,rfl,rfl,by omega,hm5,by show _<=_; rw[<- hm5.out]; exact hm6,H5.out.1,H5.out.2,R⟩
      case measure=>have:=HJ.out; simp[intOf]; omega
     ·have R:Hid (U=([],1)):=by
       show _=_
       rw[<- HR.out,Tu O s.data.toList I (by rw[HL.out]; exact hlt) (by rw[HB.out]; exact hc1) (by rw[HL.out,HB.out]; omega) (by rw[HB.out]; omega)]
      have H6:=hid h6;have HC1:=hid hc1;clear hps hsh hc1 hJ hK HR HB h6;go_wp2_with (at_builtin; (refine ZL _ rfl (.tmp 26) (.tmp 34) rfl w.heap.size _ O rfl HW.out (s.extract K J) rfl (by have:=HP.out; omega) (by have:=HP.out; have:=HO.out; have:=HC1.out; omega) hbs ?_; intro g5 m5 cap5 w5 hm5 hg5 hown5 hgrow5; have hm6:600<m5:=(by have:=hm5.out; rw[List.length_append,ba_len] at this; have:=HP.out; have:=H6.out; omega); have H5:=hid (And.intro hown5 (Xy HW.out (Nat.le_refl _) hbs hB hgrow5)); clear hown5 hgrow5))
      go_ret2
      exact⟨Y8 (by rw[R.out]; rfl) (by rw[R.out]),H5.out.2⟩
   ·have hc1':¬ (c.toNat:Int)<128:=by omega
    by_cases hsh:s.size<I+2
    ·have h1:(s.size:Int)<I+2:=by omega
     have R:Hid (U=([],5)):=by
      show _=_
      rw[<- HR.out,VR O _ I (by rw[HL.out]; exact hlt) (by rw[HB.out]; omega) (by rw[HL.out]; exact hsh)]
     clear HR HB hsh hc1;go_wp2
     go_ret2
     exact⟨Y8 (by rw[R.out]; rfl) (by rw[R.out]),hB⟩
    ·obtain⟨J,hJ⟩:∃ J,I+2=J:=⟨_,rfl⟩
     obtain⟨K,hK⟩:∃ K,I+1=K:=⟨_,rfl⟩;have zK:K<s.size:=by omega
     obtain⟨d,hd⟩:∃ d,s[K]=d:=⟨_,rfl⟩;have hb1:=XY s K zK;rw[hd,<- hK] at hb1;have HD:=hid hb1;have j1:(I:Int)+2=J:=by omega
     have j2:¬ (s.size:Int)<J:=by omega
     have j5:(I:Int)+1=K:=by omega
     have hd2:(d.toNat:Int)<=255:=by have:=d.toNat_lt; omega
     by_cases hf:d.toNat=0∨O.length<d.toNat
     ·have R:Hid (U=([],4)):=by
       show _=_
       rw[<- HR.out,Tv O s.data.toList I (by rw[HB.out]; omega) (by rw[HL.out]; omega) (by rw[HD.out]; exact hf)]
      by_cases h0:d.toNat=0
      ·have h0':((d.toNat:Int)==0)=true:=beq_iff_eq.2 (by omega)
       clear hsh hc1 hJ hK HR HB hf hb1 HD h0;go_wp2
       go_ret2
       exact⟨Y8 (by rw[R.out]; rfl) (by rw[R.out]),hB⟩
      ·have h0':((d.toNat:Int)==0)=false:=beq_eq_false_iff_ne.2 (by omega)
       have h1:(m:Int)<d.toNat:=by have:=HM.out; omega
       clear hsh hc1 hJ hK HR HB hf hb1 HD h0;go_wp2
       go_ret2
       exact⟨Y8 (by rw[R.out]; rfl) (by rw[R.out]),hB⟩
     ·have h0':((d.toNat:Int)==0)=false:=beq_eq_false_iff_ne.2 (by omega)
      have h1:¬ (m:Int)<d.toNat:=by have:=HM.out; omega
      obtain⟨N,hN⟩:∃ N,c.toNat-124=N:=⟨_,rfl⟩;have n1:(c.toNat:Int)-124=N:=by omega
      have n2:N<=131:=by omega
      obtain⟨g,cap0,hv,_⟩:=Zb HW.out (by omega)
      obtain⟨rfl,-,rfl⟩:ao=some ⟨g,0,none⟩∧m=O.length∧cap=cap0:=by simpa using hv
      have R0:Hid ((O.length+N<=600->unpAt (piece O d.toNat N) s.data.toList J=U)∧(600<O.length+N->U=([],1))):=by
       refine⟨fun h6=>?_,fun h6=>?_⟩
       ·have:=Ur O s.data.toList I (by rw[HB.out]; omega) (by rw[HL.out]; omega) (by rw[HD.out]; exact hf) (by rw[HB.out,hN]; exact h6)
        rw[HB.out,HD.out,hN] at this;rw[<- HR.out,this,hJ]
       ·rw[<- HR.out,Un O s.data.toList I (by rw[HB.out]; omega) (by rw[HL.out]; omega) (by rw[HD.out]; exact hf) (by rw[HB.out,hN]; exact h6)]
      have HF:=hid hf;have HJ:=hid hJ;clear hv hsh hc1 hJ hK HR HB hf hb1 HD;go_wp2_with fail
      go_loopw [4,8] (fun v i wx=>∃ (g1 m1 cap1 k:Nat),v=.slice (some ⟨g1,0,none⟩) m1 cap1∧i=.int .i64 k∧k<=N∧Hid (Zz wx w.heap.size (.slice (some ⟨g1,0,none⟩) m1 cap1) (piece O d.toNat k))∧Below w.heap.size w wx) (fun _ i _=>N-(intOf i).toNat)
      case atStart=>exact⟨g,m,cap,0,rfl,rfl,Nat.zero_le _,HW,hB⟩
      case round=>
       obtain⟨g1,m1,cap1,k,rfl,rfl,hk,HQ,hB1⟩:=hrel;have hl:=Xf O d.toNat k;obtain⟨hm1,hcap1,hg1⟩:=VF HQ.out;have ho:=HO.out;have hbs1:=hB1.size
       by_cases hlt:k<N
       ·obtain⟨J1,hJ1⟩:∃ J1:Nat,m1-d.toNat=J1:=⟨_,rfl⟩
        have hdO:=HF.out;have hcl:=Z1Q HQ.out J1 (by omega)
        have hpc:piece O d.toNat (k+1)=piece O d.toNat k++[bat (piece O d.toNat k) J1]:=by rw[piece,<- hJ1,hm1]
        have HPC:=hid hpc;generalize piece O d.toNat k=P at HQ hcl hl hm1 HPC hcap1;generalize bat P J1=x at hcl HPC;have q1:(m1:Int)-d.toNat=J1:=by omega
        have q2:J1<m1:=by omega
        have q3:m1<=1200:=by omega
        have hlt':(k:Int)<N:=by omega
        have HH:=hid (And.intro (ownsB_alloc HQ.out (.cells #[.int .u8 (x.toNat:Int)] 5)) (And.intro (hB1.alloc (by omega) (.cells #[.int .u8 (x.toNat:Int)] 5)) (Z1V wr x 5)))
        have hPl:P.length<=1200:=by omega
        clear HQ hB1 hJ1 hm1 hl hcap1 hg1 hpc hdO ho;go_wp2_with (at_builtin; (refine Z9 _ rfl (.tmp 64) (.tmp 72) rfl w.heap.size _ P rfl HH.out.1 ⟨wr.heap.size,0,none⟩ 1 [x] rfl HH.out.2.2 (by simp) (by simp; omega) (by simp; omega) ?_; intro g5 m5 cap5 w5 hm5 hg5 hown5 hgrow5; have H5:=hid (And.intro hown5 hgrow5); clear hown5 hgrow5))
        go_roundw
        case rel=>
         refine⟨g5,m5,cap5,k+1,rfl,by go_num,by omega,?_,Xy HH.out.1 (Nat.le_refl _) (by simp; omega) HH.out.2.1 H5.out.2⟩
         show Zz _ _ _ _
         rw[HPC.out]; exact H5.out.1
        case measure=>simp[intOf]; omega
       ·obtain rfl:k=N:=by omega
        have hge:¬ (k:Int)<k:=by omega
        have HM1:=hid hm1;have HLL:=hid hl;clear hk hlt hm1 hl
        by_cases h6:O.length+k<=600
        ·have hm6:¬ 600<m1:=by have:=HM1.out; have:=HLL.out; omega
         have R:=hid (R0.out.1 h6);have H6:=hid h6;clear R0 h6 ho;go_wp2
         go_roundw
         case rel=>exact⟨some ⟨g1,0,none⟩,m1,cap1,J,_,rfl,rfl,by omega,HM1,by show _<=_; rw[HLL.out]; exact H6.out,HQ,hB1,R⟩
         case measure=>have:=HJ.out; simp[intOf]; omega
        ·have hm6:600<m1:=by have:=HM1.out; have:=HLL.out; omega
         have R:=hid (R0.out.2 (by omega))
         clear R0 h6 ho;go_wp2
         go_ret2
         exact⟨Y8 (by rw[R.out]; rfl) (by rw[R.out]),hB1⟩
  ·have R:Hid (U=(O,0)):=by
    show _=_
    rw[<- HR.out,Jc O _ I (by rw[ba_len]; omega)]
   have hge:¬ (I:Int)<s.size:=by omega
   have hcv:=Wv HW.out;clear HR hlt;go_wp2
   go_ret2
   exact⟨Y8 (by rw[R.out]) (by rw[R.out]),hB⟩
end Go.Proofs.YtdnacpbgodooaaaGreatDoor
