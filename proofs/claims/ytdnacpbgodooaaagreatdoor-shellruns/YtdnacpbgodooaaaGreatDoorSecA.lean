import Derived.Test.YtdnacpbgodooaaaGreatDoorSumAll
import Derived.Test.YtdnacpbgodooaaaGreatDoorMem
import Derived.Lib.BufferWrite
import Derived.BigQuiet
set_option maxHeartbeats 1600000
set_option maxRecDepth 4000
namespace Go.Proofs.YtdnacpbgodooaaaGreatDoor
open Go.RowKit Go.Lib
theorem made_u8 (n:Nat):(madeCells (Value.int .u8 0).cells (n*1)).toList=List.replicate n (.int .u8 0):=by
 apply List.ext_getElem
 ·simp[madeCells]
 ·intro i h1 h2
  simp[madeCells,Value.cells,Nat.mod_one]
theorem Z0F (w:World) (n:Nat) (hn:n<=281474976710656):∃ M:Array Value,M.toList=List.replicate n (.int .u8 0) ∧
  (Instr.makeSlice 103 (.int .i64 (n:Int)) (.int .i64 (n:Int))).run Tryz.prog w=.ok (.slice (some ⟨w.heap.size,0,none⟩) n n) (w.alloc (.cells M 5)):=by
 obtain⟨i0,hi,hz0,hz1,hz2⟩:=info_parts VG;have h:=run_make (P:=Tryz.prog) w 103 5 i0 (.int .u8 0) Tryz.underlying103 hi hz0 .i64 .i64 (n:Int) (n:Int) (by omega) (by omega) (by rw[hz2]; omega) (by omega)
 rw[hz1] at h;simp only[Int.toNat_natCast] at h
 exact⟨_,made_u8 n,h⟩
theorem Z06 (no:Int) (s:ByteArray) (w:World) (h:no<0∨65535<no):
  Calls Tryz.prog 137 #[.int .i64 no,.string s] w fun e w'=>e=.returned (.tuple #[.string (str []),.int .i64 2])∧Below w.heap.size w w':=by
 by_cases h0:no<0
 ·clear h
  go_enter Tryz.func137,Tryz.ntmps137
  go_wp2
  go_ret2
  exact⟨rfl,Below.refl _ _⟩
 ·have h1:65535<no:=by omega
  have h2:0<=no:=by omega
  clear h h0;go_enter Tryz.func137,Tryz.ntmps137
  go_wp2
  go_ret2
  exact⟨rfl,Below.refl _ _⟩
theorem Z1b (no:Int) (s:ByteArray) (w:World) (h0:0<=no) (h1:no<=65535) (h:24<s.size):
  Calls Tryz.prog 137 #[.int .i64 no,.string s] w fun e w'=>e=.returned (.tuple #[.string (str []),.int .i64 1])∧Below w.heap.size w w':=by
 have h':(24:Int)<s.size:=by omega
 go_enter Tryz.func137,Tryz.ntmps137
 go_wp2
 go_ret2
 exact⟨rfl,Below.refl _ _⟩
theorem Z6b (no:Int) (h0:0<=no) (h1:no<=65535) (s:ByteArray) (X:List Value) (hX:X=((List.replicate 26 (Value.int .u8 0)).set 0 (.int .u8 (no / 256))).set 1 (.int .u8 (no % 256))):
  X.take 2++byteCells s.data.toList++X.drop (2+s.size)=Za (body no s.data.toList):=by
 subst hX;have e1:Za (be2 no)=[.int .u8 (no / 256),.int .u8 (no % 256)]:=T8 _ _ (by omega) (by omega) (by omega) (by omega)
 have e2:((List.replicate 26 (Value.int .u8 0)).set 0 (.int .u8 (no / 256))).set 1 (.int .u8 (no % 256))=[.int .u8 (no / 256),.int .u8 (no % 256)]++List.replicate 24 (.int .u8 0):=rfl;rw[body,bytesV_app,e1,e2,pad,bytesV_app,List.append_assoc]
 congr 1
 have e3:([Value.int .u8 (no / 256),Value.int .u8 (no % 256)]++List.replicate 24 (Value.int .u8 0)).drop (2+s.size)=List.replicate (24-s.size) (.int .u8 0):=by
  rw[<- List.drop_drop,List.drop_left' (by rfl),List.drop_replicate]
 rw[e3]
 congr 1
 simp[Za]
theorem Z5f (no:Int) (s:ByteArray) (w:World) (h0:0<=no) (h1:no<=65535) (hs:s.size<=24):
  Calls Tryz.prog 137 #[.int .i64 no,.string s] w fun e w'=>e=.returned (.tuple #[.string (str (sealed (body no s.data.toList))),.int .i64 0])∧Below w.heap.size w w':=by
 have hs':(s.size:Int)<=24:=by omega
 obtain⟨M,hM,hmk⟩:=Z0F w 26 (by omega)
 have hMs:M.size=26:=by rw[<- Array.length_toList,hM,List.length_replicate]
 have m0:M[0]?=some (.int .u8 0):=by rw[<- Array.getElem?_toList,hM]; rfl
 have m1:M[1]?=some (.int .u8 0):=by rw[<- Array.getElem?_toList,hM]; rfl
 obtain⟨X,hX⟩:∃ X,X=(M.setIfInBounds 0 (.int .u8 (no / 256))).setIfInBounds 1 (.int .u8 (no % 256)):=⟨_,rfl⟩;have hXs:X.size=26:=by rw[hX]; simp[hMs]
 have hXl:X.toList=((List.replicate 26 (Value.int .u8 0)).set 0 (.int .u8 (no / 256))).set 1 (.int .u8 (no % 256)):=by rw[hX,Array.toList_setIfInBounds,Array.toList_setIfInBounds,hM]
 have hr:=Z6b no h0 h1 s X.toList hXl;have hg:(w.alloc (.cells X 5)).heap[w.heap.size]?=some (.cells X 5 (0,0)):=heap_alloc_new w _
 have hcp:=run_copy_row_string (P:=Tryz.prog) (w.alloc (.cells X 5)) 103 9 3 5 w.heap.size 2 24 24 s X 5 Tryz.underlying103 (by kernel_rfl) hg hs (by omega)
 rw[hr] at hcp;have hl:=XP no s.data.toList (by rw[ba_len]; exact hs)
 have hgY:((w.alloc (.cells X 5)).setRow w.heap.size (Za (body no s.data.toList)).toArray).heap[w.heap.size]?=some (.cells (Za (body no s.data.toList)).toArray 5 (0,0)):=setRow_heap _ _ X _ 5 (0,0) hg
 have hcv:=run_convert_bytes_back (P:=Tryz.prog) ((w.alloc (.cells X 5)).setRow w.heap.size (Za (body no s.data.toList)).toArray) 103 9 5 ⟨w.heap.size,0,none⟩ 26 (body no s.data.toList) Tryz.underlying103 Tryz.underlying5 Tryz.underlying9 (by
  intro j hj;rw[Addr.add_lit,Nat.zero_add];unfold World.cell?
  rw[hgY];simp[Za,hj])
 rw[hl] at hcv;change _=Result.ok (Value.string (str (body no s.data.toList))) _ at hcv
 have hb3:Below w.heap.size w (w.alloc (.cells X 5)):=(Below.refl _ w).alloc (Nat.le_refl _) _;have hb4:Below w.heap.size w ((w.alloc (.cells X 5)).setRow w.heap.size (Za (body no s.data.toList)).toArray):=hb3.trans ⟨rfl,rfl,rfl,by simp,fun k hk=>setRow_other _ _ _ _ (by omega)⟩
 have ho:=fun wx=>Z1S (str (body no s.data.toList)) wx (by rw[str_size,hl]; unfold maxLen; omega)
 rw[str_list] at ho;have hsz:(str (body no s.data.toList)).size=26:=by rw[str_size,hl]
 have hz:(str (Zk (body no s.data.toList))).size=4:=rfl;have hadd:str (body no s.data.toList)++str (Zk (body no s.data.toList))=str (sealed (body no s.data.toList)):=str_app _ _;generalize sealed (body no s.data.toList)=SB at hadd ⊢;generalize str (Zk (body no s.data.toList))=SS at hadd hz ho;generalize str (body no s.data.toList)=BB at hadd hsz ho hcv;generalize (w.alloc (.cells X 5)).setRow w.heap.size (Za (body no s.data.toList)).toArray=W4 at hb4 hcv hcp;have HA:=hid hadd;have HB:=hid hb4;have HO:=hid ho;clear hadd hb4 ho hgY hr hXl hXs hb3 hg hl hM hMs;subst hX;simp only[show ((26:Nat):Int)=26 from rfl] at hmk
 go_enter Tryz.func137,Tryz.ntmps137
 go_wp2_with fail
 refine (HO.out _).mono ?_
 rintro _ w5 ⟨rfl,g1⟩;go_wp2
 go_ret2
 exact⟨Z1I HA.out,HB.out.trans (g1.mono HB.out.size)⟩
theorem TI (no:Int) (s:ByteArray) (w:World):
  Calls Tryz.prog 137 #[.int .i64 no,.string s] w fun e w'=>e=.returned (.tuple #[.string (str (encd no s.data.toList).1),.int .i64 (encd no s.data.toList).2])∧Below w.heap.size w w':=by
 unfold encd
 by_cases h:no<0∨65535<no
 ·rw[if_pos h]
  exact Z06 no s w h
 ·rw[if_neg h]
  by_cases h2:24<s.data.toList.length
  ·rw[if_pos h2]
   rw[ba_len] at h2;exact Z1b no s w (by omega) (by omega) h2
  ·rw[if_neg h2]
   rw[ba_len] at h2;exact Z5f no s w (by omega) (by omega) (by omega)
end Go.Proofs.YtdnacpbgodooaaaGreatDoor
namespace Go.Proofs.YtdnacpbgodooaaaGreatDoor
open Go.RowKit Go.Lib
theorem Zm (n a b:Int) (w:World):
  Calls Tryz.prog 28 #[.int .i64 n,.int .i64 a,.int .i64 b] w fun e w'=>e=.returned (.bool (decide (a<=n∧n<=b)))∧w'=w:=by
 by_cases h:a<=n
 ·by_cases h2:n<=b
  ·go_enter Tryz.func28,Tryz.ntmps28
   go_wp2
   go_ret
   exact⟨Z7 (by simp[h,h2]),rfl⟩
  ·go_enter Tryz.func28,Tryz.ntmps28
   go_wp2
   go_ret
   exact⟨Z7 (by simp; omega),rfl⟩
 ·go_enter Tryz.func28,Tryz.ntmps28
  go_wp2
  go_ret
  exact⟨Z7 (by simp; omega),rfl⟩
theorem YF (N:Nat) (w:World) (hN:N<=1000):
  Calls Tryz.prog 69 #[.int .i64 N] w fun e w'=>e=.returned (.string (str (List.replicate N 0)))∧w'=w:=by
 go_enter Tryz.func69,Tryz.ntmps69
 go_wp2
 go_loop [0,3] (fun n s=>∃ k m:Nat,k+m=N∧n=.int .i64 m∧s=.string (str (List.replicate k 0))) (fun n _=>(intOf n).toNat)
 case atStart=>exact⟨0,N,by omega,rfl,rfl⟩
 case round=>
  obtain⟨k,m,hk,rfl,rfl⟩:=hrel;have hz:(str (List.replicate k 0)).size=k:=by rw[str_size,List.length_replicate]
  by_cases h0:0<m
  ·have h0':(0:Int)<m:=by omega
   have E:Hid (str (List.replicate k 0)++⟨#[0]⟩=str (List.replicate (k+1) 0)):=by
    show _=_
    rw[List.replicate_succ',<- str_app]; rfl
   generalize str (List.replicate k 0)=S at hz E ⊢;go_wp2
   go_round
   case rel=>exact⟨k+1,m-1,by omega,by go_num,by rw[E.out]⟩
   case measure=>simp[intOf]; omega
  ·obtain rfl:m=0:=by omega
   obtain rfl:k=N:=by omega
   go_wp2
   go_ret
   exact⟨rfl,rfl⟩
theorem Z1q (no:Int) (s:ByteArray) (w:World) (h:no<0∨65535<no):
  Calls Tryz.prog 60 #[.int .i64 no,.string s] w fun e w'=>e=.returned (.tuple #[.string (str []),.int .i64 2])∧Below w.heap.size w w':=by
 have hi:=fun wx=>Zm no 0 65535 wx
 rw[show decide (0<=no∧no<=65535)=false from decide_eq_false (by omega)] at hi
 have HI:=hid hi;clear hi h;go_enter Tryz.func60,Tryz.ntmps60
 go_wp2_with fail
 refine (HI.out _).mono ?_
 rintro _ _ ⟨rfl,rfl⟩;go_wp2
 go_ret2
 exact⟨rfl,Below.refl _ _⟩
theorem Z3z (no:Int) (s:ByteArray) (w:World) (h0:0<=no) (h1:no<=65535) (h:24<s.size):
  Calls Tryz.prog 60 #[.int .i64 no,.string s] w fun e w'=>e=.returned (.tuple #[.string (str []),.int .i64 1])∧Below w.heap.size w w':=by
 have h':(24:Int)<s.size:=by omega
 have hi:=fun wx=>Zm no 0 65535 wx
 rw[show decide (0<=no∧no<=65535)=true from decide_eq_true (by omega)] at hi
 have HI:=hid hi;clear hi h;go_enter Tryz.func60,Tryz.ntmps60
 go_wp2_with fail
 refine (HI.out _).mono ?_
 rintro _ _ ⟨rfl,rfl⟩;go_wp2
 go_ret2
 exact⟨rfl,Below.refl _ _⟩
theorem Z74 (no:Int) (s:ByteArray) (w:World) (h0:0<=no) (h1:no<=65535) (hs:s.size<=24):
  Calls Tryz.prog 60 #[.int .i64 no,.string s] w fun e w'=>e=.returned (.tuple #[.string (str (sealed (body no s.data.toList))),.int .i64 0])∧Below w.heap.size w w':=by
 have hs':(s.size:Int)<=24:=by omega
 have hi:=fun wx=>Zm no 0 65535 wx
 rw[show decide (0<=no∧no<=65535)=true from decide_eq_true (by omega)] at hi
 obtain⟨k,hk⟩:∃ k:Nat,k+s.size=24:=⟨24-s.size,by omega⟩
 have hn:=fun wx=>YF k wx (by omega)
 have hw:IntKind.i64.wrap (24-(s.size:Int))=k:=by rw[IntKind.wrap_i64]; omega
 have hN:=Z2m (no / 256) (no % 256) (by omega) (by omega) (by omega) (by omega)
 have u1:IntKind.i64.wrap (no.tdiv 256)=no / 256:=by rw[Int.tdiv_eq_ediv_of_nonneg h0]; exact IntWalk.i64_in _ (by omega)
 have u2:IntKind.u8.wrap (no / 256)=no / 256:=by rw[IntKind.wrap_u8]; omega
 have u4:IntKind.u8.wrap (no.tmod 256)=no % 256:=by rw[Int.tmod_eq_emod_of_nonneg h0,IntKind.wrap_u8]; omega
 have hz:(str (List.replicate k 0)).size=k:=by rw[str_size,List.length_replicate]
 have e2:str [byt (no / 256),byt (no % 256)]++s++str (List.replicate k 0)=str (body no s.data.toList):=by
  rw[show s=str s.data.toList from (V7 s).symm,str_app,str_app,str_list,body,pad,ba_len,show 24-s.size=k by omega,be2]; simp
 have hl:=XP no s.data.toList (by rw[ba_len]; exact hs)
 have ha1:∀ wx,(Op.stringOp .add (str [byt (no / 256),byt (no % 256)]) s).run Tryz.prog wx=.ok (.string (str [byt (no / 256),byt (no % 256)]++s)) wx:=fun wx=>run_string_add_sum wx _ _ (by rw[str_size]; simp; omega)
 have ha2:∀ wx,(Op.stringOp .add (str [byt (no / 256),byt (no % 256)]++s) (str (List.replicate k 0))).run Tryz.prog wx=.ok (.string (str (body no s.data.toList))) wx:=fun wx=>by
  rw[<- e2]; exact run_string_add_sum wx _ _ (by rw[ByteArray.size_append,str_size,hz]; simp; omega)
 have ho:=fun wx=>Qf (str (body no s.data.toList)) wx (by rw[str_size,hl]; unfold maxLen; omega)
 rw[str_list] at ho;have hsz:(str (body no s.data.toList)).size=26:=by rw[str_size,hl]
 have hz4:(str (Zk (body no s.data.toList))).size=4:=rfl;have hadd:str (body no s.data.toList)++str (Zk (body no s.data.toList))=str (sealed (body no s.data.toList)):=str_app _ _;generalize sealed (body no s.data.toList)=SB at hadd ⊢;generalize str (Zk (body no s.data.toList))=SS at hadd hz4 ho;generalize str (body no s.data.toList)=BB at hadd hsz ho ha2;generalize str (List.replicate k 0)=NN at hn ha2;have HA:=hid hadd;have HI:=hid hi;have HN:=hid hn;have HO:=hid ho;clear hadd hi hn ho hl e2 hz;go_enter Tryz.func60,Tryz.ntmps60
 go_wp2_with fail
 refine (HI.out _).mono ?_
 rintro _ _ ⟨rfl,rfl⟩;go_wp2_with fail
 go_region_with (go_at_call 69; refine (HN.out _).mono ?_; rintro _ _ ⟨rfl,rfl⟩)
 all_goals go_wp2_with fail
 all_goals (refine (HO.out _).mono ?_; rintro _ w5 ⟨rfl,g1⟩; go_wp2; go_ret2; refine⟨Z1I HA.out,?_⟩)
 all_goals exact (((Below.refl _ _).alloc (Nat.le_refl _) _).drew).trans (g1.mono (by simp))
theorem Z0c (no:Int) (s:ByteArray) (w:World):
  Calls Tryz.prog 60 #[.int .i64 no,.string s] w fun e w'=>e=.returned (.tuple #[.string (str (encd no s.data.toList).1),.int .i64 (encd no s.data.toList).2])∧Below w.heap.size w w':=by
 unfold encd
 by_cases h:no<0∨65535<no
 ·rw[if_pos h]
  exact Z1q no s w h
 ·rw[if_neg h]
  by_cases h2:24<s.data.toList.length
  ·rw[if_pos h2]
   rw[ba_len] at h2;exact Z3z no s w (by omega) (by omega) h2
  ·rw[if_neg h2]
   rw[ba_len] at h2;exact Z74 no s w (by omega) (by omega) (by omega)
end Go.Proofs.YtdnacpbgodooaaaGreatDoor
namespace Go.Proofs.YtdnacpbgodooaaaGreatDoor
open Go.RowKit Go.Lib
theorem JI (no:Int) (s:ByteArray) (w:World) (h:s.size≠30):
  Calls Tryz.prog 174 #[.int .i64 no,.string s] w fun e w'=>e=.returned (.tuple #[.string (str []),.int .i64 1])∧Below w.heap.size w w':=by
 have h':((s.size:Int)==30)=false:=beq_eq_false_iff_ne.2 (by omega)
 go_enter Tryz.func174,Tryz.ntmps174
 go_wp2
 go_ret2
 exact⟨rfl,Below.refl _ _⟩
theorem Uy (s:ByteArray) (h:s.size=30):((str (Zk (s.extract 0 26).data.toList)).toList==(s.extract 26 30).toList)=decide (s.data.toList.drop 26=Zk (s.data.toList.take 26)):=by
 have e1:(s.extract 0 26).data.toList=s.data.toList.take 26:=by rw[ext_list,cut,List.drop_zero]
 have e2:(s.extract 26 30).data.toList=s.data.toList.drop 26:=by rw[ext_list,cut,List.take_of_length_le (by rw[ba_len]; omega)]
 rw[ByteArray.toList_eq,ByteArray.toList_eq,str_list,e1,e2,Bool.eq_iff_iff];simp only[beq_iff_eq,decide_eq_true_eq]
 exact eq_comm
theorem Z4C (s:ByteArray) (h:s.size=30):numb s.data.toList=(256:Int)*(s[0].toNat:Int)+(s[1].toNat:Int):=by
 rw[numb,XY s 0 (by omega),XY s 1 (by omega)]
theorem Z0X (no:Int) (s:ByteArray) (w:World) (h:s.size=30) (hd:s.data.toList.drop 26≠Zk (s.data.toList.take 26)):
  Calls Tryz.prog 174 #[.int .i64 no,.string s] w fun e w'=>e=.returned (.tuple #[.string (str []),.int .i64 10])∧Below w.heap.size w w':=by
 have h':((s.size:Int)==30)=true:=beq_iff_eq.2 (by omega)
 have ho:=fun wx=>Qf (s.extract 0 26) wx (by rw[Zh _ _ _ (by omega)]; unfold maxLen; omega)
 have ht:=Uy s h;rw[decide_eq_false hd] at ht;generalize str (Zk (s.extract 0 26).data.toList)=SS at ho ht;have HO:=hid ho;clear ho hd;go_enter Tryz.func174,Tryz.ntmps174
 go_wp2_with fail
 go_region_with (go_at_call 121; refine (HO.out _).mono ?_; rintro _ _ ⟨rfl,hb⟩)
 all_goals go_wp2
 all_goals go_ret2
 all_goals exact⟨rfl,((Below.refl _ _).drew).trans hb⟩
theorem JJ (no:Int) (s:ByteArray) (w:World) (h:s.size=30) (hd:s.data.toList.drop 26=Zk (s.data.toList.take 26)) (hn:numb s.data.toList≠no):
  Calls Tryz.prog 174 #[.int .i64 no,.string s] w fun e w'=>e=.returned (.tuple #[.string (str []),.int .i64 4])∧Below w.heap.size w w':=by
 have h':((s.size:Int)==30)=true:=beq_iff_eq.2 (by omega)
 have ho:=fun wx=>Qf (s.extract 0 26) wx (by rw[Zh _ _ _ (by omega)]; unfold maxLen; omega)
 have ht:=Uy s h;rw[decide_eq_true hd] at ht;generalize str (Zk (s.extract 0 26).data.toList)=SS at ho ht;rw[Z4C s h] at hn;have b0:=s[0].toNat_lt;have b1:=s[1].toNat_lt;have u1:IntKind.i64.wrap (s[0].toNat:Int)=(s[0].toNat:Int):=IntWalk.i64_in _ (by omega)
 have u2:IntKind.i64.wrap (s[1].toNat:Int)=(s[1].toNat:Int):=IntWalk.i64_in _ (by omega)
 have u3:IntKind.i64.wrap ((256:Int)*(s[0].toNat:Int))=(256:Int)*(s[0].toNat:Int):=IntWalk.i64_in _ (by omega)
 have u4:IntKind.i64.wrap ((256:Int)*(s[0].toNat:Int)+(s[1].toNat:Int))=(256:Int)*(s[0].toNat:Int)+(s[1].toNat:Int):=IntWalk.i64_in _ (by omega)
 have HO:=hid ho;have hx:((256:Int)*(s[0].toNat:Int)+(s[1].toNat:Int) != no)=true:=by simpa using hn
 clear ho hd hn;go_enter Tryz.func174,Tryz.ntmps174
 go_wp2_with fail
 go_region_with (go_at_call 121; refine (HO.out _).mono ?_; rintro _ _ ⟨rfl,hb⟩)
 all_goals go_wp2_with fail
 all_goals go_quiet (fail)
 all_goals go_wp2
 all_goals go_ret2
 all_goals exact⟨rfl,below_drewN (((Below.refl _ _).drew).trans hb) _⟩
theorem Z36 (no:Int) (s:ByteArray) (w:World) (h:s.size=30) (hd:s.data.toList.drop 26=Zk (s.data.toList.take 26)) (hn:numb s.data.toList=no):
  Calls Tryz.prog 174 #[.int .i64 no,.string s] w fun e w'=>e=.returned (.tuple #[.string (str (cut s.data.toList 2 26)),.int .i64 0])∧Below w.heap.size w w':=by
 rw[<- ext_str];have h':((s.size:Int)==30)=true:=beq_iff_eq.2 (by omega)
 have ho:=fun wx=>Qf (s.extract 0 26) wx (by rw[Zh _ _ _ (by omega)]; unfold maxLen; omega)
 have ht:=Uy s h;rw[decide_eq_true hd] at ht;generalize str (Zk (s.extract 0 26).data.toList)=SS at ho ht;rw[Z4C s h] at hn;have b0:=s[0].toNat_lt;have b1:=s[1].toNat_lt;have u1:IntKind.i64.wrap (s[0].toNat:Int)=(s[0].toNat:Int):=IntWalk.i64_in _ (by omega)
 have u2:IntKind.i64.wrap (s[1].toNat:Int)=(s[1].toNat:Int):=IntWalk.i64_in _ (by omega)
 have u3:IntKind.i64.wrap ((256:Int)*(s[0].toNat:Int))=(256:Int)*(s[0].toNat:Int):=IntWalk.i64_in _ (by omega)
 have u4:IntKind.i64.wrap ((256:Int)*(s[0].toNat:Int)+(s[1].toNat:Int))=(256:Int)*(s[0].toNat:Int)+(s[1].toNat:Int):=IntWalk.i64_in _ (by omega)
 have HO:=hid ho;have hx:((256:Int)*(s[0].toNat:Int)+(s[1].toNat:Int) != no)=false:=by simpa using hn
 clear ho hd hn;go_enter Tryz.func174,Tryz.ntmps174
 go_wp2_with fail
 go_region_with (go_at_call 121; refine (HO.out _).mono ?_; rintro _ _ ⟨rfl,hb⟩)
 all_goals go_wp2_with fail
 all_goals go_quiet (fail)
 all_goals go_wp2
 all_goals go_ret2
 all_goals exact⟨rfl,below_drewN (((Below.refl _ _).drew).trans hb) _⟩
theorem Z0Y (no:Int) (s:ByteArray) (w:World):
  Calls Tryz.prog 174 #[.int .i64 no,.string s] w fun e w'=>e=.returned (.tuple #[.string (str (decd no s.data.toList).1),.int .i64 (decd no s.data.toList).2])∧Below w.heap.size w w':=by
 unfold decd
 by_cases h:s.data.toList.length≠30
 ·rw[if_pos h]
  exact JI no s w (by rw[ba_len] at h; exact h)
 ·rw[if_neg h]
  have h':s.size=30:=by rw[ba_len] at h; omega
  by_cases h2:s.data.toList.drop 26≠Zk (s.data.toList.take 26)
  ·rw[if_pos h2]
   exact Z0X no s w h' h2
  ·rw[if_neg h2]
   have h2':s.data.toList.drop 26=Zk (s.data.toList.take 26):=Decidable.not_not.1 h2
   by_cases h3:numb s.data.toList≠no
   ·rw[if_pos h3]
    exact JJ no s w h' h2' h3
   ·rw[if_neg h3]
    exact Z36 no s w h' h2' (Decidable.not_not.1 h3)
end Go.Proofs.YtdnacpbgodooaaaGreatDoor
