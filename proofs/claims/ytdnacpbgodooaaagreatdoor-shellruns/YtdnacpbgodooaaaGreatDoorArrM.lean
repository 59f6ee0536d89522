import Derived.Test.YtdnacpbgodooaaaGreatDoorSumAll
import Derived.Test.YtdnacpbgodooaaaGreatDoorMem
import Derived.Test.YtdnacpbgodooaaaGreatDoorPureB
set_option maxHeartbeats 800000
namespace Go.Proofs.YtdnacpbgodooaaaGreatDoor
open Go.RowKit Go.Lib
def diffs (s t:List UInt8):List UInt8:=xors s t++s.drop t.length
theorem Z0a (s:List UInt8):diffs s []=s:=by simp[diffs,xors]
theorem Wh (s t:List UInt8) (h:t.length<=s.length):(diffs s t).length=s.length:=by simp[diffs,xors]; omega
theorem Z2j (s t:List UInt8) (k:Nat) (hk:t.length<=k) (hs:k<s.length) (h:t.length<=s.length):(diffs s t)[k]'(by rw[Wh s t h]; exact hs)=s[k]:=by
 unfold diffs;rw[List.getElem_append_right (by simp[xors]; omega)]
 simp only[xors,List.length_zipWith,List.getElem_drop]
 congr 1
 omega
theorem TJ (s t:List UInt8) (k:Nat) (hk:k<t.length) (hs:t.length<=s.length):(diffs s (t.take k)).set k (s[k] ^^^ t[k])=diffs s (t.take (k+1)):=by
 have e0:∀ m,m<=t.length->xors s (t.take m)=xors (s.take m) (t.take m):=by
  intro m hm;unfold xors;rw[List.zipWith_eq_zipWith_take_min]
  simp
  rw[Nat.min_eq_left hm,Nat.min_eq_right (by omega),List.take_take,Nat.min_self]
 unfold diffs;rw[e0 k (by omega),e0 (k+1) (by omega),QU s t k (by omega) hk]
 rw[List.set_append_right _ _ (by simp[xors]; omega)]
 have e1:k-(xors (s.take k) (t.take k)).length=0:=by simp[xors]; omega
 have e2:(t.take k).length=k:=by simp; omega
 have e3:(t.take (k+1)).length=k+1:=by simp; omega
 rw[e1,e2,e3,List.drop_eq_getElem_cons (i:=k) (by omega),List.set_cons_zero,List.append_assoc]
 rfl
theorem TM (s t:List UInt8) (h:s.length=t.length):diffs s t=xors s t:=by
 unfold diffs;rw[<- h,List.drop_length,List.append_nil]
structure Y6 (w:World) (b:Nat) (l:List UInt8):Prop where
 at_:∀ j (hj:j<l.length),w.cell? ⟨b,j,none⟩=some (.int .u8 (l[j].toNat:Int))∧w.frozen? ⟨b,j,none⟩=false
theorem Y6.drew {w:World} {b:Nat} {l:List UInt8} (h:Y6 w b l):Y6 w.drew b l:=⟨h.at_⟩
theorem Y6.set {w:World} {b:Nat} {l:List UInt8} (h:Y6 w b l) (k:Nat) (hk:k<l.length) (v:UInt8):Y6 (w.setCell ⟨b,k,none⟩ (.int .u8 (v.toNat:Int))) b (l.set k v):=by
 refine⟨fun j hj=>⟨?_,?_⟩⟩
 ·rw[List.getElem_set]
  by_cases e:k=j
  ·subst e
   rw[World.cell?_setCell_same _ _ _ (h.at_ k hk).1,if_pos rfl]
  ·rw[World.cell?_setCell_other _ _ _ _ (fun x=>e (congrArg Addr.off x)),if_neg e]
   exact (h.at_ j (by simpa using hj)).1
 ·rw[World.frozen?_setCell]
  exact (h.at_ j (by simpa using hj)).2
theorem U3 (w:World) (s:ByteArray) (C:Array Value) (hsz:s.size<=C.size) (hcell:∀ j (hj:j<s.size),C[j]?=some (.int .u8 (s[j].toNat:Int))):Y6 (w.alloc (.cells C 5 (C.size,C.size+1))) w.heap.size s.data.toList:=by
 refine⟨fun j hj=>⟨?_,?_⟩⟩
 ·rw[World.cell?_alloc_mark]
  exact hcell j (by rw[ba_len] at hj; exact hj)
 ·rw[ba_len] at hj
  rw[World.frozen?_alloc_mark]; simp; omega
theorem U4 {w:World} {b cap n:Nat} {l:List UInt8} (h:Y6 w b l) (hn:n=l.length):(convert 103 9 (.slice (some ⟨b,0,none⟩) n cap)).run Tryz.prog w=.ok (.string (str l)) w:=by
 have h':=run_convert_bytes_back (P:=Tryz.prog) w 103 9 5 ⟨b,0,none⟩ cap l Tryz.underlying103 Tryz.underlying5 Tryz.underlying9 (by
  intro j hj;rw[Addr.add_lit,Nat.zero_add];exact (h.at_ j hj).1)
 rw[hn];exact h'
theorem Y3 (s t:ByteArray) (w:World) (hs:s.size<=1000) (hst:t.size<=s.size):
  Calls Tryz.prog 120 #[.string s,.string t] w fun e w'=>e=.returned (.string (str (diffs s.data.toList t.data.toList)))∧Below w.heap.size w w':=by
 have hconv:=run_bytes_of_string (P:=Tryz.prog) w 9 103 5 s Tryz.underlying9 Tryz.underlying103 Tryz.underlying5;generalize grownCap w s.size 0 5=cap at hconv;obtain⟨C,hC,hsz,hcell⟩:=Qb s cap;rw[hC] at hconv;clear hC;have H0:=hid (And.intro (U3 w s C hsz hcell) ((Below.refl _ w).alloc (Nat.le_refl _) (.cells C 5 (C.size,C.size+1))));clear hsz hcell;go_enter Tryz.func120,Tryz.ntmps120
 go_wp2_with fail
 clear hconv;go_loopw [11] (fun i wr=>∃ I:Nat,i=.int .i64 I∧I<=t.size∧Hid (Y6 wr w.heap.size (diffs s.data.toList (t.data.toList.take I))∧Below w.heap.size w wr)) (fun i _=>t.size-(intOf i).toNat)
 case atStart=>exact⟨0,rfl,Nat.zero_le _,by rw[List.take_zero,Z0a]; exact hid (And.intro H0.out.1.drew H0.out.2.drew)⟩
 case round=>
  obtain⟨I,rfl,hI,HO⟩:=hrel;clear H0
  by_cases hlt:I<t.size
  ·have hlt':(I:Int)<t.size:=by omega
   have hlt2:(I:Int)<s.size:=by omega
   have bs:=s[I].toNat_lt;have bt:=t[I].toNat_lt;have ux:bits .xor .u8 (s[I].toNat:Int) (t[I].toNat:Int)=((s[I] ^^^ t[I]).toNat:Int):=by rw[u8_xor_nat _ _ bs bt,UInt8.toNat_xor]
   have hl:t.data.toList.length<=s.data.toList.length:=by rw[ba_len,ba_len]; exact hst
   have hl2:(t.data.toList.take I).length<=s.data.toList.length:=by rw[List.length_take]; omega
   have hk:I<(diffs s.data.toList (t.data.toList.take I)).length:=by rw[Wh _ _ hl2,ba_len]; omega
   have hc:=HO.out.1.at_ I hk;rw[Z2j _ _ I (by rw[List.length_take]; omega) (by rw[ba_len]; omega) hl2] at hc
   obtain⟨c1,c2⟩:=hc;change wr.cell? _=some (.int .u8 (s[I].toNat:Int)) at c1
   have hst':=HO.out.1.drew.set I hk (s[I] ^^^ t[I]);have hstep:(diffs s.data.toList (t.data.toList.take I)).set I (s[I] ^^^ t[I])=diffs s.data.toList (t.data.toList.take (I+1)):=TJ s.data.toList t.data.toList I (by rw[ba_len]; omega) hl
   rw[hstep] at hst';have HK:=hid (And.intro hst' (HO.out.2.drew.setCell (p:=⟨w.heap.size,I,none⟩) (Nat.le_refl _) (.int .u8 ((s[I] ^^^ t[I]).toNat:Int))));clear hst' hstep hk hl hl2 HO;generalize s[I] ^^^ t[I]=z at ux HK;go_wp2_with fail
   go_region
   all_goals go_wp2
   all_goals go_roundw
   all_goals (first | (case rel=>exact⟨I+1,by go_num,by omega,HK.out⟩) | skip)
   all_goals (simp[intOf]; omega)
  ·obtain rfl:I=t.size:=by omega
   have hnl:¬ (t.size:Int)<t.size:=by omega
   have ht:t.data.toList.take t.size=t.data.toList:=by rw[<- ba_len,List.take_length]
   rw[ht] at HO;have hcv:=fun cap=>U4 (cap:=cap) (n:=s.size) HO.out.1 (by rw[Wh _ _ (by rw[ba_len,ba_len]; exact hst),ba_len])
   go_wp2
   go_ret
   exact⟨rfl,HO.out.2⟩
end Go.Proofs.YtdnacpbgodooaaaGreatDoor
namespace Go.Proofs.YtdnacpbgodooaaaGreatDoor
open Go.RowKit
theorem TV (s t:List UInt8):(xors s t).length=min s.length t.length:=by simp[xors]
theorem ZR (A:Ar) (n:Nat) (h:(tell A n).2.2=0):(tell A n).1.length=24:=by
 unfold tell at h ⊢
 split
 ·rename_i e
  exact mirr_len A n (by omega)
 ·rename_i e
  rw[if_neg e] at h
  split
  ·rename_i e2
   rw[if_pos e2] at h;cases h
  ·rename_i e2
   have l1:=mirr_len A (part n) (fun x=>e2 (.inl x))
   have l2:(pari A n).1.length=24:=Yi _ _ _ (Classical.byContradiction fun x=>e2 (.inr x))
   show (xors _ _).length=24
   rw[TV,l1,l2]; rfl
theorem tell_three (A:Ar) (n:Nat) (h:(tell A n).2.1=3):(tell A n).2.2=0:=by
 unfold tell at h ⊢
 split
 ·rfl
 ·rename_i e
  rw[if_neg e] at h
  split
  ·rename_i e2
   rw[if_pos e2] at h;cases h
  ·rfl
theorem Z3K (s t:List UInt8):xors s t=xors t s:=by
 unfold xors;rw[List.zipWith_comm]
 congr 1
 funext x y
 exact UInt8.xor_comm _ _
theorem Z09 (r s:List UInt8) (hr:r.length=24) (hs:s.length<=24):diffs r s=xors (pad s) r:=by
 rw[Z3K (pad s) r];unfold diffs pad
 apply List.ext_getElem
 ·simp[xors]; omega
 ·intro j h1 h2
  by_cases hj:j<s.length
  ·rw[List.getElem_append_left (by simp[xors]; omega)]
   simp only[xors,List.getElem_zipWith]
   rw[List.getElem_append_left hj]
  ·rw[List.getElem_append_right (by simp[xors]; omega)]
   simp only[xors,List.getElem_zipWith,List.length_zipWith,List.getElem_drop]
   rw[List.getElem_append_right (by omega),List.getElem_replicate,UInt8.xor_zero]
   congr 1
   omega
theorem Zl (A:Ar) (n:Nat) (hm:Z2 A=true) (hn:n<many A):arRead A n=tell A n:=by
 have:arTouch A n=0:=by rw[arTouch,if_pos hm,if_pos ⟨by omega,by omega⟩]
 rw[arRead,if_pos this]; simp
def mid (A:Ar) (n:Nat):Ar:=if (tell A (part n)).2.1=3 then both A (part n) (tell A (part n)).1 else A
theorem Z4p (A:Ar) (n:Nat) (s:List UInt8):put A n s=if (tell A (part n)).2.2=0 then (both (mid A n) n s).set 2 (dvWrite (dev (both (mid A n) n s) 2) ((n / 2:Nat):Int) ((512+n / 2:Nat):Int) (xors (pad s) (tell A (part n)).1)).1 else (both (mid A n) n s).set 2 (dvLose (dev (both (mid A n) n s) 2) ((n / 2:Nat):Int)).1:=by
 have e:(if (tell A (part n)).2.2=0∧(tell A (part n)).2.1=3 then both A (part n) (tell A (part n)).1 else A)=mid A n:=by
  unfold mid
  by_cases h:(tell A (part n)).2.1=3
  ·rw[if_pos h,if_pos ⟨tell_three A _ h,h⟩]
  ·rw[if_neg h,if_neg (fun x=>h x.2)]
 unfold put;simp only[e]
end Go.Proofs.YtdnacpbgodooaaaGreatDoor
namespace Go.Proofs.YtdnacpbgodooaaaGreatDoor
open Go.RowKit
def stChk (A:Ar) (x n:Int):Int:=if Z2 A=true then (if 0<=n∧n<=1536 then (if 0<=x∧x+secs n.toNat<=many A then 0 else 2) else 1) else 9
def chunk (s:List UInt8) (i:Nat):List UInt8:=(s.drop (24*i)).take 24
def stN (A:Ar) (x:Nat) (s:List UInt8):Nat->Ar
 | 0=>A
 | i+1=>(arWrite (stN A x s i) ((x+i:Nat):Int) (chunk s i)).1
def Zg (A:Ar) (x:Int) (s:List UInt8):Ar × Int:=if stChk A x s.length=0 then (stN A x.toNat s (secs s.length),0) else ([],stChk A x s.length)
def rdN (A:Ar) (x:Nat):Nat->List UInt8 × Int
 | 0=>([],0)
 | i+1=>if (rdN A x i).2=0 then (if (arRead A ((x+i:Nat):Int)).2.2=0 then ((rdN A x i).1++(arRead A ((x+i:Nat):Int)).1,0) else ([],(arRead A ((x+i:Nat):Int)).2.2)) else rdN A x i
def Zn (A:Ar) (x n:Int):List UInt8 × Int:=if stChk A x n=0 then ((rdN A x.toNat (secs n.toNat)).1.take n.toNat,(rdN A x.toNat (secs n.toNat)).2) else ([],stChk A x n)
theorem Xa (A:Ar) (x n:Int) (h:stChk A x n=0):Z2 A=true∧(0<=n∧n<=1536)∧0<=x∧x+secs n.toNat<=many A:=by
 unfold stChk at h
 split at h
 ·rename_i h1
  split at h
  ·rename_i h2
   split at h
   ·rename_i h3
    exact⟨h1,h2,h3⟩
   ·cases h
  ·cases h
 ·cases h
theorem UZ (s:List UInt8) (i:Nat):(chunk s i).length<=24:=by simp[chunk]; omega
theorem Z0U (A:Ar) (x i:Nat) (h:(rdN A x i).2=0) (h2:(arRead A ((x+i:Nat):Int)).2.2=0):rdN A x (i+1)=((rdN A x i).1++(arRead A ((x+i:Nat):Int)).1,0):=by rw[rdN,if_pos h,if_pos h2]
theorem Z0V (A:Ar) (x i:Nat) (h:(rdN A x i).2=0) (h2:(arRead A ((x+i:Nat):Int)).2.2≠0):∀ j,i+1<=j->rdN A x j=([],(arRead A ((x+i:Nat):Int)).2.2)
 | 0,hj=>absurd hj (by omega)
 | j+1,hj=>by
  by_cases e:j=i
  ·subst e
   rw[rdN,if_pos h,if_neg h2]
  ·have ih:=Z0V A x i h h2 j (by omega)
   rw[rdN,ih,if_neg h2]
theorem VN (A:Ar) (k:Nat) (h:(arRead A k).2.2=0):(arRead A k).1.length=24:=by
 unfold arRead at h ⊢
 split at h
 ·rename_i ht
  rw[if_pos ht];exact ZR A _ h
 ·rename_i ht
  exact absurd h ht
theorem rd_len (A:Ar) (x:Nat):∀ i,(rdN A x i).2=0->(rdN A x i).1.length=24*i
 | 0,_=>rfl
 | i+1,h=>by
  rw[rdN] at h ⊢
  split at h
  ·rename_i h1
   rw[if_pos h1]
   split at h
   ·rename_i h2
    rw[if_pos h2];rw[List.length_append,rd_len A x i h1,VN A _ h2];omega
   ·rename_i h2
    exact absurd h h2
  ·rename_i h1
   exact absurd h h1
end Go.Proofs.YtdnacpbgodooaaaGreatDoor
