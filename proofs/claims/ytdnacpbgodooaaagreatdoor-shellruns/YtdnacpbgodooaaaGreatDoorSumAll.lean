import Derived.Test.YtdnacpbgodooaaaGreatDoorRows
import Derived.Test.YtdnacpbgodooaaaGreatDoorLow
import Derived.WalkLawsBesides
set_option maxHeartbeats 400000
namespace Go.Proofs.YtdnacpbgodooaaaGreatDoor
open Go.RowKit
theorem Z6Z (n m:Int) (h0:0<=n) (h1:n<256) (g0:0<=m) (g1:m<256) (w:World):
  (convert 103 9 (.slice (some ⟨w.heap.size,0,none⟩) 2 2)).run Tryz.prog (w.alloc (.cells #[.int .u8 n,.int .u8 m] 5))
   = .ok (.string (str [byt n,byt m])) (w.alloc (.cells #[.int .u8 n,.int .u8 m] 5)):=by
 have h:=run_convert_bytes_back (P:=Tryz.prog) (w.alloc (.cells #[.int .u8 n,.int .u8 m] 5)) 103 9 5 ⟨w.heap.size,0,none⟩ 2 [byt n,byt m] Tryz.underlying103 Tryz.underlying5 Tryz.underlying9 (by
  intro j hj
  match j,hj with
  | 0,_=>simp[Addr.add,World.cell?_alloc_mark,byt_nat n h0 h1]
  | 1,_=>simp[Addr.add,World.cell?_alloc_mark,byt_nat m g0 g1])
 exact h
theorem Z5t (n m k l:Int) (h0:0<=n) (h1:n<256) (g0:0<=m) (g1:m<256) (i0:0<=k) (i1:k<256) (j0:0<=l) (j1:l<256) (w:World):
  (convert 103 9 (.slice (some ⟨w.heap.size,0,none⟩) 4 4)).run Tryz.prog (w.alloc (.cells #[.int .u8 n,.int .u8 m,.int .u8 k,.int .u8 l] 5))
   = .ok (.string (str [byt n,byt m,byt k,byt l])) (w.alloc (.cells #[.int .u8 n,.int .u8 m,.int .u8 k,.int .u8 l] 5)):=by
 have h:=run_convert_bytes_back (P:=Tryz.prog) (w.alloc (.cells #[.int .u8 n,.int .u8 m,.int .u8 k,.int .u8 l] 5)) 103 9 5 ⟨w.heap.size,0,none⟩ 4 [byt n,byt m,byt k,byt l] Tryz.underlying103 Tryz.underlying5 Tryz.underlying9 (by
  intro j hj
  match j,hj with
  | 0,_=>simp[Addr.add,World.cell?_alloc_mark,byt_nat n h0 h1]
  | 1,_=>simp[Addr.add,World.cell?_alloc_mark,byt_nat m g0 g1]
  | 2,_=>simp[Addr.add,World.cell?_alloc_mark,byt_nat k i0 i1]
  | 3,_=>simp[Addr.add,World.cell?_alloc_mark,byt_nat l j0 j1])
 exact h
end Go.Proofs.YtdnacpbgodooaaaGreatDoor
namespace Go.Proofs.YtdnacpbgodooaaaGreatDoor
open Go.RowKit
theorem Z2M (n:Int) (h0:0<=n) (h1:n<65521) (w:World):
  Calls Tryz.prog 201 #[.int .i64 n] w fun e w'=>e=.returned (.string (str (be2 n)))∧Below w.heap.size w w':=by
 have hc:=Z6Z (n / 256) (n % 256) (by omega) (by omega) (by omega) (by omega) w
 go_enter Tryz.func201,Tryz.ntmps201
 go_wp2
 go_ret
 exact⟨rfl,(Below.refl _ _).alloc (Nat.le_refl _) _⟩
theorem Z1S (s:ByteArray) (w:World) (hs:s.size<=maxLen):
  Calls Tryz.prog 175 #[.string s] w fun e w'=>e=.returned (.string (str (Zk s.data.toList)))∧Below w.heap.size w w':=by
 unfold maxLen at hs;go_enter Tryz.func175,Tryz.ntmps175
 go_wp2
 go_loop [3,4,8] (fun x y i=>∃ k:Nat,k<=s.size∧i=.int .i64 k∧x=.int .i64 (adl (s.data.toList.take k)).1∧y=.int .i64 (adl (s.data.toList.take k)).2) (fun _ _ i=>s.size-(intOf i).toNat)
 case atStart=>exact⟨0,Nat.zero_le _,rfl,rfl,rfl⟩
 case round=>
  obtain⟨k,hk,rfl,rfl,rfl⟩:=hrel;obtain⟨⟨b1,b2⟩,b3,b4⟩:=Z2B (s.data.toList.take k)
  by_cases hlt:k<s.size
  ·have HS:Hid (adl (s.data.toList.take (k+1))=step (adl (s.data.toList.take k)) s[k]):=by show _=_; rw[take_snoc s k hlt,QP]
   have hb1:(s[k].toNat:Int)<=255:=by have:=s[k].toNat_lt; omega
   have hb0:0<=(s[k].toNat:Int):=by omega
   go_wp2
   go_round
   case rel=>exact⟨k+1,by omega,by go_num,by rw[HS.out]; rfl,by rw[HS.out]; rfl⟩
   case measure=>simp[intOf]; omega
  ·have e:s.data.toList.take k=s.data.toList:=List.take_of_length_le (by simp; omega)
   rw[e] at b1 b2 b3 b4 ⊢;clear e;have z:∀ n,(str (be2 n)).size=2:=fun _=>rfl
   go_wp2_with (go_at_call 201; refine (Z2M _ (by omega) (by omega) _).mono ?_; rintro e w' ⟨rfl,hg⟩)
   go_ret
   rename_i w1 g1 _;exact⟨VC (str_app _ _),g1.trans (hg.mono g1.size)⟩
end Go.Proofs.YtdnacpbgodooaaaGreatDoor
namespace Go.Proofs.YtdnacpbgodooaaaGreatDoor
open Go.RowKit
theorem Qf (s:ByteArray) (w:World) (hs:s.size<=maxLen):
  Calls Tryz.prog 121 #[.string s] w fun e w'=>e=.returned (.string (str (Zk s.data.toList)))∧Below w.heap.size w w':=by
 unfold maxLen at hs;go_enter Tryz.func121,Tryz.ntmps121
 go_wp2
 go_loop [3,4,5] (fun x y i=>∃ k:Nat,k<=s.size∧i=.int .i64 k∧x=.int .i64 (adl (s.data.toList.take k)).1∧y=.int .i64 (adl (s.data.toList.take k)).2) (fun _ _ i=>s.size-(intOf i).toNat)
 case atStart=>exact⟨0,Nat.zero_le _,rfl,rfl,rfl⟩
 case round=>
  obtain⟨k,hk,rfl,rfl,rfl⟩:=hrel;obtain⟨⟨b1,b2⟩,b3,b4⟩:=Z2B (s.data.toList.take k)
  by_cases hlt:k<s.size
  ·have HS:Hid (adl (s.data.toList.take (k+1))=step (adl (s.data.toList.take k)) s[k]):=by show _=_; rw[take_snoc s k hlt,QP]
   have hb1:(s[k].toNat:Int)<=255:=by have:=s[k].toNat_lt; omega
   have hb0:0<=(s[k].toNat:Int):=by omega
   go_wp2
   go_round
   case rel=>exact⟨k+1,by omega,by go_num,by rw[HS.out]; rfl,by rw[HS.out,Int.add_comm]; rfl⟩
   case measure=>simp[intOf]; omega
  ·have e:s.data.toList.take k=s.data.toList:=List.take_of_length_le (by simp; omega)
   rw[e] at b1 b2 b3 b4 ⊢;clear e;have hc:=Z5t ((adl s.data.toList).2 / 256) ((adl s.data.toList).2 % 256) ((adl s.data.toList).1 / 256) ((adl s.data.toList).1 % 256) (by omega) (by omega) (by omega) (by omega) (by omega) (by omega) (by omega) (by omega) w
   go_wp2
   go_ret
   exact⟨rfl,(Below.refl _ _).alloc (Nat.le_refl _) _⟩
end Go.Proofs.YtdnacpbgodooaaaGreatDoor
namespace Go.Proofs.YtdnacpbgodooaaaGreatDoor
open Go.RowKit
theorem Qb (s:ByteArray) (cap:Nat):∃ C:Array Value,bytesRow s cap=C∧s.size<=C.size∧∀ j (hj:j<s.size),C[j]?=some (.int .u8 (s[j].toNat:Int)):=
 ⟨_,rfl,by simp[bytesRow],fun j hj=>bytesRow_at s cap j hj⟩
end Go.Proofs.YtdnacpbgodooaaaGreatDoor
