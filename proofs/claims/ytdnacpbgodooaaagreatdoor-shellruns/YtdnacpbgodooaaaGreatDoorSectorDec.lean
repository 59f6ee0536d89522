import Derived.Test.YtdnacpbgodooaaaGreatDoorSumAll
import Derived.Test.YtdnacpbgodooaaaGreatDoorShelf
set_option maxHeartbeats 1600000
set_option maxRecDepth 4000
namespace Go.Proofs.YtdnacpbgodooaaaGreatDoor
open Go.RowKit Go.Lib
theorem VA (s:ByteArray) (h:s.size=30):((s.extract 26 30).toList==(str (Zk (s.extract 0 26).data.toList)).toList)=decide (s.data.toList.drop 26=Zk (s.data.toList.take 26)):=by
 have e1:(s.extract 0 26).data.toList=s.data.toList.take 26:=by rw[ext_list,cut,List.drop_zero]
 have e2:(s.extract 26 30).data.toList=s.data.toList.drop 26:=by rw[ext_list,cut,List.take_of_length_le (by rw[ba_len]; omega)]
 rw[ByteArray.toList_eq,ByteArray.toList_eq,str_list,e1,e2,Bool.eq_iff_iff];simp only[beq_iff_eq,decide_eq_true_eq]
theorem Z1R (x y:Nat) (hx:x<256) (hy:y<256):bits .or .i64 ((x:Int)*256) (y:Int)=(256:Int)*(x:Int)+(y:Int):=by
 have e:(x:Int)*256=((x*256:Nat):Int):=by omega
 have o:x*256 ||| y=x*256+y:=by rw[<- Nat.shiftLeft_eq x 8,Nat.shiftLeft_add_eq_or_of_lt hy]
 rw[e];show IntKind.i64.wrap ((BitVec.ofInt 64 ((x*256:Nat):Int) ||| BitVec.ofInt 64 (y:Int)).toNat:Int)=_
 rw[BitVec.toNat_or,ofInt_u64 _ (by omega),ofInt_u64 _ (by omega),o,IntKind.wrap_i64]
 omega
theorem TA (s:ByteArray) (w:World) (h:s.size=30):
  Calls Tryz.prog 200 #[.string s] w fun e w'=>e=.returned (.int .i64 (numb s.data.toList))∧∃ n,w'=w.drewN n:=by
 have hn:numb s.data.toList=(256:Int)*(s[0].toNat:Int)+(s[1].toNat:Int):=by rw[numb,XY s 0 (by omega),XY s 1 (by omega)]
 have b0:=s[0].toNat_lt;have b1:=s[1].toNat_lt;have u1:IntKind.i64.wrap (s[0].toNat:Int)=(s[0].toNat:Int):=IntWalk.i64_in _ (by omega)
 have u2:IntKind.i64.wrap (s[1].toNat:Int)=(s[1].toNat:Int):=IntWalk.i64_in _ (by omega)
 have HN:=hid hn;clear hn;go_enter Tryz.func200,Tryz.ntmps200
 go_wp2_with fail
 go_quiet (fail)
 go_wp2
 go_ret
 exact⟨ret_int (by rw[HN.out,Z1R _ _ b0 b1]),_,rfl⟩
theorem Wi (s:ByteArray) (w:World) (h:s.size<=281474976710656):
  Calls Tryz.prog 108 #[.string s] w fun e w'=>e=.returned (.string s)∧Below w.heap.size w w':=by
 have HC:=hid (Tryz.stringslite_Clone s w h);go_enter Tryz.func108,Tryz.ntmps108
 go_wp2_with fail
 refine HC.out.mono ?_
 rintro _ w2 ⟨rfl,g⟩;go_wp2
 go_ret
 exact⟨rfl,g⟩
theorem Z1f (no:Int) (s:ByteArray) (w:World) (h:s.size≠30):
  Calls Tryz.prog 170 #[.int .i64 no,.string s] w fun e w'=>e=.returned (.tuple #[.string (str []),.int .i64 1])∧Below w.heap.size w w':=by
 have h':((s.size:Int)==30)=false:=beq_eq_false_iff_ne.2 (by omega)
 go_enter Tryz.func170,Tryz.ntmps170
 go_wp2
 go_ret2
 exact⟨rfl,Below.refl _ _⟩
theorem Z3t (no:Int) (s:ByteArray) (w:World) (h:s.size=30) (hd:s.data.toList.drop 26≠Zk (s.data.toList.take 26)):
  Calls Tryz.prog 170 #[.int .i64 no,.string s] w fun e w'=>e=.returned (.tuple #[.string (str []),.int .i64 10])∧Below w.heap.size w w':=by
 have h':((s.size:Int)==30)=true:=beq_iff_eq.2 (by omega)
 have ho:=fun wx=>Z1S (s.extract 0 26) wx (by rw[Zh _ _ _ (by omega)]; unfold maxLen; omega)
 have ht:=VA s h;rw[decide_eq_false hd] at ht;generalize str (Zk (s.extract 0 26).data.toList)=SS at ho ht;have HO:=hid ho;clear ho hd;go_enter Tryz.func170,Tryz.ntmps170
 go_wp2_with fail
 go_region_with (go_at_call 175; refine (HO.out _).mono ?_; rintro _ _ ⟨rfl,hb⟩)
 all_goals go_wp2
 all_goals go_ret2
 all_goals exact⟨rfl,((Below.refl _ _).drew).trans hb⟩
theorem Z1g (no:Int) (s:ByteArray) (w:World) (h:s.size=30) (hd:s.data.toList.drop 26=Zk (s.data.toList.take 26)) (hn:numb s.data.toList≠no):
  Calls Tryz.prog 170 #[.int .i64 no,.string s] w fun e w'=>e=.returned (.tuple #[.string (str []),.int .i64 4])∧Below w.heap.size w w':=by
 have h':((s.size:Int)==30)=true:=beq_iff_eq.2 (by omega)
 have ho:=fun wx=>Z1S (s.extract 0 26) wx (by rw[Zh _ _ _ (by omega)]; unfold maxLen; omega)
 have ht:=VA s h;rw[decide_eq_true hd] at ht;generalize str (Zk (s.extract 0 26).data.toList)=SS at ho ht;have hm:=fun wx=>TA s wx h
 generalize numb s.data.toList=m at hn hm;have hx:(m != no)=true:=by simpa using hn
 have HO:=hid ho;have HM:=hid hm;clear ho hd hm hn;go_enter Tryz.func170,Tryz.ntmps170
 go_wp2_with fail
 go_region_with (go_at_call 175; refine (HO.out _).mono ?_; rintro _ _ ⟨rfl,hb⟩)
 all_goals go_wp2_with fail
 all_goals (refine (HM.out _).mono ?_; rintro _ _ ⟨rfl,q,rfl⟩; go_wp2; go_ret2; exact⟨rfl,below_drewN (((Below.refl _ _).drew).trans hb) _⟩)
theorem Z5l (no:Int) (s:ByteArray) (w:World) (h:s.size=30) (hd:s.data.toList.drop 26=Zk (s.data.toList.take 26)) (hn:numb s.data.toList=no):
  Calls Tryz.prog 170 #[.int .i64 no,.string s] w fun e w'=>e=.returned (.tuple #[.string (str (cut s.data.toList 2 26)),.int .i64 0])∧Below w.heap.size w w':=by
 rw[<- ext_str];have h':((s.size:Int)==30)=true:=beq_iff_eq.2 (by omega)
 have ho:=fun wx=>Z1S (s.extract 0 26) wx (by rw[Zh _ _ _ (by omega)]; unfold maxLen; omega)
 have ht:=VA s h;rw[decide_eq_true hd] at ht;generalize str (Zk (s.extract 0 26).data.toList)=SS at ho ht;have hm:=fun wx=>TA s wx h
 generalize numb s.data.toList=m at hn hm;have hx:(m != no)=false:=by simpa using hn
 have hc:=fun wx=>Wi (s.extract 2 26) wx (by rw[Zh _ _ _ (by omega)]; omega)
 have HO:=hid ho;have HM:=hid hm;have HC:=hid hc;clear ho hd hm hn hc;go_enter Tryz.func170,Tryz.ntmps170
 go_wp2_with fail
 go_region_with (go_at_call 175; refine (HO.out _).mono ?_; rintro _ _ ⟨rfl,hb⟩)
 all_goals go_wp2_with fail
 all_goals (refine (HM.out _).mono ?_; rintro _ _ ⟨rfl,q,rfl⟩; go_wp2_with fail)
 all_goals (refine (HC.out _).mono ?_; rintro _ w9 ⟨rfl,g9⟩; go_wp2; go_ret2)
 all_goals exact⟨rfl,(below_drewN (((Below.refl _ _).drew).trans hb) _).trans (g9.mono (below_drewN (((Below.refl _ _).drew).trans hb) _).size)⟩
theorem Z3u (no:Int) (s:ByteArray) (w:World):
  Calls Tryz.prog 170 #[.int .i64 no,.string s] w fun e w'=>e=.returned (.tuple #[.string (str (decd no s.data.toList).1),.int .i64 (decd no s.data.toList).2])∧Below w.heap.size w w':=by
 unfold decd
 by_cases h:s.data.toList.length≠30
 ·rw[if_pos h]
  exact Z1f no s w (by rw[ba_len] at h; exact h)
 ·rw[if_neg h]
  have h':s.size=30:=by rw[ba_len] at h; omega
  by_cases h2:s.data.toList.drop 26≠Zk (s.data.toList.take 26)
  ·rw[if_pos h2]
   exact Z3t no s w h' h2
  ·rw[if_neg h2]
   have h2':s.data.toList.drop 26=Zk (s.data.toList.take 26):=Decidable.not_not.1 h2
   by_cases h3:numb s.data.toList≠no
   ·rw[if_pos h3]
    exact Z1g no s w h' h2' h3
   ·rw[if_neg h3]
    exact Z5l no s w h' h2' (Decidable.not_not.1 h3)
end Go.Proofs.YtdnacpbgodooaaaGreatDoor
