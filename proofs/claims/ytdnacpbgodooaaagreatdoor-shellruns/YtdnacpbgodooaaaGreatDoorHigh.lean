import Derived.Test.YtdnacpbgodooaaaGreatDoorLow
import Derived.Lib.Strings
import Derived.Lib.Repeat
namespace Go.Proofs.YtdnacpbgodooaaaGreatDoor
open Go.RowKit Go.Lib
theorem Z8k (x:UInt8) (c:Int) (h0:0<c) (h1:c<256):byt ((x.toNat+c) % 256)≠x:=by
 intro e;have h:=byt_nat (((x.toNat:Int)+c) % 256) (by omega) (by omega)
 rw[e] at h
 have:=x.toNat_lt
 omega
theorem XK (no:Int) (l:List UInt8) (h:l.length<=24):(str (sealed (body no l))).size=30:=by
 rw[str_size,sealed_length,XP no l h]
theorem Ja (s:ByteArray) (k:Nat) (c:Int) (h:s.size=30):(str (upBy s.data.toList k c)).size=30:=by
 rw[str_size,upBy,List.length_set,ba_len,h]
section
variable {D:Dv} {k j:Nat} {s:ByteArray} {l:Bool}
theorem Zu (D:Dv) (k:Nat):dvTouch D k=0↔dvMay D=true∧k<D.1.length:=by
 constructor
 ·intro h
  obtain⟨h1,_,h2,_⟩:=ZM D k h;exact⟨h1,by omega⟩
 ·rintro⟨h1,h2⟩
  rw[dvTouch,if_pos h1,if_pos (by omega)]
theorem Xi (h:dvTouch D j=0) (hs:s.size=30):dvTouch (dvPut D k s l) j=0:=by
 rw[Zu] at h ⊢;obtain⟨h1,h2⟩:=h;refine⟨?_,by simpa[dvPut] using h2⟩
 rw[ZG] at h1 ⊢;refine⟨by simpa[dvPut] using h1.1,fun x hx=>?_⟩
 rcases List.mem_or_eq_of_mem_set hx with h | rfl
 ·exact h1.2 x h
 ·exact hs
theorem Q4 (h:k<D.1.length):sec (dvPut D k s l) k=s:=by simp[sec,dvPut,h]
theorem UN (h:k<D.2.length):los (dvPut D k s l) k=l:=by simp[los,dvPut,h]
theorem sec_put_other (h:k≠j):sec (dvPut D k s l) j=sec D j:=by simp[sec,dvPut,List.getElem?_set_ne h]
theorem los_put_other (h:k≠j):los (dvPut D k s l) j=los D j:=by simp[los,dvPut,List.getElem?_set_ne h]
theorem len2 (h:dvTouch D k=0):k<D.1.length∧k<D.2.length:=by
 obtain⟨_,_,h1,h2,_⟩:=ZM D k h;omega
theorem WY (h:dvTouch D k=0) (no:Int) (p:List UInt8) (h0:0<=no) (h1:no<=65535) (hp:p.length<=24):dvWrite D k no p=(dvPut D k (str (sealed (body no p))) false,0):=by
 have e:(k:Int).toNat=k:=by omega
 rw[dvWrite,dvChange,if_pos h,encd_ok no p h0 h1 hp,if_pos rfl,e]
theorem Z4M (h:dvTouch D k=0):dvLose D k=(dvPut D k (sec D k) true,0):=by
 have e:(k:Int).toNat=k:=by omega
 rw[dvLose,dvChange,if_pos h,if_pos rfl,e]
theorem Z7s (h:dvTouch D k=0) (pl:Nat) (c:Int) (h0:pl<30) (h1:0<=c) (h2:c<=255):dvTurn D k pl c=(dvPut D k (str (upBy (sec D k).data.toList pl c)) (los D k),0):=by
 have e:(k:Int).toNat=k:=by omega
 have e2:(pl:Int).toNat=pl:=by omega
 rw[dvTurn,if_pos (show 0<=(pl:Int)∧(pl:Int)<30∧0<=c∧c<=255 by omega),dvChange,if_pos h,if_pos rfl,e,e2]
theorem read_ok (h:dvTouch D k=0) (no:Int) (hl:los D k=false):dvRead D k no=decd no (sec D k).data.toList:=by
 have e:(k:Int).toNat=k:=by omega
 rw[dvRead,if_pos h,e,hl,if_neg (by decide)]
theorem read_lost (h:dvTouch D k=0) (no:Int) (hl:los D k=true):dvRead D k no=([],11):=by
 have e:(k:Int).toNat=k:=by omega
 rw[dvRead,if_pos h,e,hl,if_pos rfl]
end
structure KeepsD (n k o pl:Nat) (p:List UInt8) (c:Int) (D0 D1 D2 D3 D4:Dv) (E3:List UInt8 × Int):Prop where
 new:dvNew n 0=(D0,0)
 write:dvWrite D0 k k p=(D1,0)
 read:dvRead D1 k k=(pad p,0)
 lose:dvLose D1 k=(D2,0)
 lost:dvRead D2 k k=([],11)
 turn:dvTurn D1 k pl c=(D3,0)
 turned:dvRead D3 k k=E3
 told:c≠0->E3.2=10
 again:dvWrite D2 k k p=(D4,0)
 back:dvRead D4 k k=(pad p,0)
 rest:o≠k->dvRead D3 o o=(List.replicate 24 0,0)
theorem keeps (n k o pl:Nat) (p:List UInt8) (c:Int) (h1:1<=n) (h2:n<=64) (hk:k<n) (ho:o<n) (hpl:pl<30) (hp:p.length<=24) (c0:0<=c) (c1:c<=255):∃ D0 D1 D2 D3 D4 E3,KeepsD n k o pl p c D0 D1 D2 D3 D4 E3:=by
 obtain⟨D0,hD0⟩:∃ D0:Dv,D0=((List.range n).map fun (i:Nat)=>str (encd (0+i) []).1,List.replicate n false):=⟨_,rfl⟩
 have hnew:dvNew n 0=(D0,0):=by
  rw[dvNew,if_pos (by omega),hD0]
  rfl
 have hl1:D0.1.length=n:=by rw[hD0]; simp
 have hl2:D0.2.length=n:=by rw[hD0]; simp
 have hsec:∀ j,j<n->sec D0 j=str (sealed (body j [])):=by
  intro j hj;rw[sec_lt D0 j (by omega)]
  simp only[hD0,List.getElem_map,List.getElem_range]
  rw[encd_ok _ _ (by omega) (by omega) (by simp),Int.zero_add]
 have hlos:∀ j,j<n->los D0 j=false:=by
  intro j hj;rw[Z22 D0 j (by omega)]
  simp[hD0]
 have hmay:dvMay D0=true:=by
  rw[ZG];refine⟨by omega,fun s hs=>?_⟩
  obtain⟨j,hj,rfl⟩:=List.mem_iff_getElem.1 hs;rw[<- sec_lt D0 j hj,hsec j (by omega),XK _ _ (by simp)]
 have ht0:∀ j,j<n->dvTouch D0 j=0:=fun j hj=>(Zu D0 j).2 ⟨hmay,by omega⟩
 have hz:=XK k p hp;have hk0:(0:Int)<=k:=by omega
 have hk1:(k:Int)<=65535:=by omega
 have w1:=WY (ht0 k hk) k p hk0 hk1 hp;obtain⟨D1,hD1⟩:∃ D1,D1=dvPut D0 k (str (sealed (body k p))) false:=⟨_,rfl⟩;rw[<- hD1] at w1;have t1:∀ j,j<n->dvTouch D1 j=0:=fun j hj=>by rw[hD1]; exact Xi (ht0 j hj) hz
 have s1:sec D1 k=str (sealed (body k p)):=by rw[hD1]; exact Q4 (by omega)
 have l1:los D1 k=false:=by rw[hD1]; exact UN (by omega)
 have dz:decd k (str (sealed (body k p))).data.toList=(pad p,0):=by
  rw[str_list]
  have:=Vr k p hk0 hk1 hp
  rwa [encd_ok _ _ hk0 hk1 hp] at this
 obtain⟨D2,hD2⟩:∃ D2,D2=dvPut D1 k (sec D1 k) true:=⟨_,rfl⟩;have t2:dvTouch D2 k=0:=by rw[hD2]; exact Xi (t1 k hk) (by rw[s1]; exact hz)
 have l2:los D2 k=true:=by rw[hD2]; exact UN (len2 (t1 k hk)).2
 obtain⟨D3,hD3⟩:∃ D3,D3=dvPut D1 k (str (upBy (sec D1 k).data.toList pl c)) (los D1 k):=⟨_,rfl⟩;have hz3:(str (upBy (sec D1 k).data.toList pl c)).size=30:=Ja _ _ _ (by rw[s1]; exact hz)
 have t3:∀ j,j<n->dvTouch D3 j=0:=fun j hj=>by rw[hD3]; exact Xi (t1 j hj) hz3
 obtain⟨D4,hD4⟩:∃ D4,D4=dvPut D2 k (str (sealed (body k p))) false:=⟨_,rfl⟩;have t4:dvTouch D4 k=0:=by rw[hD4]; exact Xi t2 hz
 refine⟨D0,D1,D2,D3,D4,dvRead D3 k k,hnew,w1,?_,?_,read_lost t2 _ l2,?_,rfl,?_,?_,?_,?_⟩
 ·rw[read_ok (t1 k hk) _ l1,s1,dz]
 ·rw[Z4M (t1 k hk),<- hD2]
 ·rw[Z7s (t1 k hk) pl c hpl c0 c1,<- hD3]
 ·intro hc
  have l3:los D3 k=false:=by rw[hD3,l1]; exact UN (len2 (t1 k hk)).2
  have s3:sec D3 k=str (upBy (sec D1 k).data.toList pl c):=by rw[hD3]; exact Q4 (len2 (t1 k hk)).1
  rw[read_ok (t3 k hk) _ l3,s3,str_list,s1,str_list,upBy];rw[Z1h k (body k p) (XP k p hp) pl hpl _ (Z8k _ c (by omega) (by omega))]
 ·rw[WY t2 k p hk0 hk1 hp,<- hD4]
 ·have l4:los D4 k=false:=by rw[hD4]; exact UN (len2 t2).2
  have s4:sec D4 k=str (sealed (body k p)):=by rw[hD4]; exact Q4 (len2 t2).1
  rw[read_ok t4 _ l4,s4,dz]
 ·intro hok
  have hne:k≠o:=fun e=>hok e.symm
  have l3:los D3 o=false:=by rw[hD3,los_put_other hne,hD1,los_put_other hne]; exact hlos o ho
  have s3:sec D3 o=str (sealed (body o [])):=by rw[hD3,sec_put_other hne,hD1,sec_put_other hne]; exact hsec o ho
  rw[read_ok (t3 o ho) _ l3,s3,str_list]
  have:=Vr o [] (by omega) (by omega) (by simp)
  rw[encd_ok _ _ (by omega) (by omega) (by simp)] at this
  exact this
end Go.Proofs.YtdnacpbgodooaaaGreatDoor
namespace Go.Proofs.YtdnacpbgodooaaaGreatDoor
open Go.RowKit
theorem Z5V (s t:List UInt8):xors s t=xors t s:=by
 unfold xors;rw[List.zipWith_comm]
 congr 1
 funext x y
 exact UInt8.xor_comm _ _
theorem Uk (s t:List UInt8):(xors s t).length=min s.length t.length:=by simp[xors]
theorem Te (n:Nat):xors (List.replicate n 0) (List.replicate n 0)=List.replicate n 0:=by
 unfold xors;rw[List.zipWith_replicate']
 rfl
theorem Qh (l:List UInt8) (h:l.length=24):pad l=l:=by simp[pad,h]
theorem Z7L (l:List UInt8) (h:l.length<=24):pad (pad l)=pad l:=Qh _ (pad_length l h)
theorem QH (no:Int) (l:List UInt8) (h:l.length<=24):body no (pad l)=body no l:=by rw[body,body,Z7L l h]
def whole (n:Nat) (start:Nat) (pay:Nat->List UInt8):Dv:=((List.range n).map fun (i:Nat)=>str (sealed (body ((start+i:Nat):Int) (pay i))),List.replicate n false)
section
variable {n start k:Nat} {pay pay':Nat->List UInt8}
theorem VZ:(whole n start pay).1.length=n∧(whole n start pay).2.length=n:=by simp[whole]
theorem mk_sec (h:k<n):sec (whole n start pay) k=str (sealed (body ((start+k:Nat):Int) (pay k))):=by
 rw[sec_lt _ _ (by rw[VZ.1]; exact h)]
 simp[whole]
theorem mk_los (h:k<n):los (whole n start pay) k=false:=by
 rw[Z22 _ _ (by rw[VZ.2]; exact h)]
 simp[whole]
theorem Ue (h:∀ i,i<n->body ((start+i:Nat):Int) (pay i)=body ((start+i:Nat):Int) (pay' i)):whole n start pay=whole n start pay':=by
 unfold whole
 congr 1
 apply List.map_congr_left
 intro i hi;rw[h i (List.mem_range.1 hi)]
theorem mk_may (h1:1<=n) (h2:n<=64) (hp:∀ i,i<n->(pay i).length<=24):dvMay (whole n start pay)=true:=by
 rw[ZG,VZ.1,VZ.2];refine⟨by omega,fun s hs=>?_⟩
 simp only[whole,List.mem_map,List.mem_range] at hs
 obtain⟨i,hi,rfl⟩:=hs;exact XK _ _ (hp i hi)
theorem Z1Y (h1:1<=n) (h2:n<=64) (hp:∀ i,i<n->(pay i).length<=24) (hk:k<n):dvTouch (whole n start pay) k=0:=(Zu _ _).2 ⟨mk_may h1 h2 hp,by rw[VZ.1]; exact hk⟩
theorem Z7T (h1:1<=n) (h2:n<=64) (hs:start<=1000) (hp:∀ i,i<n->(pay i).length<=24) (hk:k<n):dvRead (whole n start pay) k ((start+k:Nat):Int)=(pad (pay k),0):=by
 rw[read_ok (Z1Y h1 h2 hp hk) _ (mk_los hk),mk_sec hk,str_list]
 have:=Vr ((start+k:Nat):Int) (pay k) (by omega) (by omega) (hp k hk)
 rwa [encd_ok _ _ (by omega) (by omega) (hp k hk)] at this
theorem mk_put (_hk:k<n) (s:List UInt8):dvPut (whole n start pay) k (str (sealed (body ((start+k:Nat):Int) s))) false=whole n start (fun i=>if i=k then s else pay i):=by
 unfold dvPut whole
 congr 1
 ·apply List.ext_getElem
  ·simp
  ·intro i h1 h2
   simp only[List.getElem_set,List.getElem_map,List.getElem_range]
   by_cases e:k=i
   ·subst e; simp
   ·have e':¬ i=k:=fun h=>e h.symm
    simp[e,e']
 ·apply List.ext_getElem
  ·simp
  ·intro i h1 h2
   simp
theorem mk_write (h1:1<=n) (h2:n<=64) (hs:start<=1000) (hp:∀ i,i<n->(pay i).length<=24) (hk:k<n) (s:List UInt8) (h24:s.length<=24):dvWrite (whole n start pay) k ((start+k:Nat):Int) s=(whole n start (fun i=>if i=k then s else pay i),0):=by
 rw[WY (Z1Y h1 h2 hp hk) _ s (by omega) (by omega) h24,mk_put hk]
end
theorem Z7h (n start:Nat) (h1:1<=n) (h2:n<=64) (h3:start<=512):dvNew n start=(whole n start (fun _=>[]),0):=by
 have e:(n:Int).toNat=n:=by omega
 rw[dvNew,if_pos (by omega),e]
 unfold whole
 congr 2
 apply List.map_congr_left
 intro i hi
 have:=List.mem_range.1 hi
 rw[encd_ok _ _ (by omega) (by omega) (by simp)]
 simp
def pay (all:List (List UInt8)) (i:Nat):List UInt8:=all[i]?.getD []
def goodA (all:List (List UInt8)):Ar:=[whole all.length 0 (pay all),whole all.length 0 (pay all),whole (all.length / 2) 512 (fun j=>xors (pay all (2*j)) (pay all (2*j+1)))]
structure Alls (all:List (List UInt8)):Prop where
 lo:16<=all.length
 hi:all.length<=64
 even:all.length % 2=0
 full:∀ i,i<all.length->(pay all i).length=24
section
variable {all:List (List UInt8)}
theorem Alls.le (h:Alls all):∀ i,i<all.length->(pay all i).length<=24:=fun i hi=>by rw[h.full i hi]; exact Nat.le_refl _
theorem Alls.xle (h:Alls all):∀ j,j<all.length / 2->(xors (pay all (2*j)) (pay all (2*j+1))).length=24:=fun j hj=>by
 rw[Uk,h.full _ (by omega),h.full _ (by omega)]; rfl
theorem good_many:many (goodA all)=all.length:=VZ.1
theorem YJ (h:Alls all):Z2 (goodA all)=true:=by
 have h1:=h.lo;have h2:=h.hi;rw[arMay_iff];refine⟨rfl,?_,by rw[good_many]; exact h.lo,by rw[good_many]; exact h.hi,by rw[good_many]; exact h.even,?_,?_⟩
 ·intro D hD
  simp only[goodA,List.mem_cons,List.not_mem_nil,or_false] at hD
  rcases hD with rfl | rfl | rfl
  ·exact mk_may (by omega) h2 h.le
  ·exact mk_may (by omega) h2 h.le
  ·exact mk_may (by omega) (by omega) (fun j hj=>by rw[h.xle j hj]; exact Nat.le_refl _)
 ·rw[good_many]; exact VZ.1
 ·rw[good_many]; exact VZ.1
theorem read0 (h:Alls all) (i:Nat) (hi:i<all.length):dvRead (whole all.length 0 (pay all)) i i=(pay all i,0):=by
 have h1:=h.lo
 have:=Z7T (start:=0) (by omega) h.hi (by omega) h.le hi
 rw[Nat.zero_add,Qh _ (h.full i hi)] at this;exact this
theorem Z54 (h:Alls all) (i:Nat) (hi:i<all.length):mirr (goodA all) i=(pay all i,1):=by
 have:=read0 h i hi
 unfold mirr;show (if (dvRead (whole all.length 0 (pay all)) i i).2=0 then ((dvRead (whole all.length 0 (pay all)) i i).1,1) else _)=_
 rw[this,if_pos rfl]
theorem JY (h:Alls all) (i:Nat) (hi:i<all.length):tell (goodA all) i=(pay all i,1,0):=by
 unfold tell;rw[Z54 h i hi,if_pos (show (0:Int)<1 by decide)]
theorem two (n:Nat):(2*(n / 2)=n∧2*(n / 2)+1=part n)∨(2*(n / 2)=part n∧2*(n / 2)+1=n):=by
 unfold part; split <;> omega
theorem two_xors (n:Nat):xors (pay all (2*(n / 2))) (pay all (2*(n / 2)+1))=xors (pay all n) (pay all (part n)):=by
 rcases two n with ⟨h1,h2⟩ | ⟨h1,h2⟩
 ·rw[h2,h1]
 ·rw[h2,h1,Z5V]
theorem pay_set (k:Nat) (s:List UInt8) (hk:k<all.length) (i:Nat):pay (all.set k s) i=if i=k then s else pay all i:=by
 unfold pay
 by_cases e:i=k
 ·subst e; simp[hk]
 ·rw[List.getElem?_set_ne (fun h=>e h.symm),if_neg e]
theorem Alls.set (h:Alls all) (k:Nat) (s:List UInt8) (hk:k<all.length) (hs:s.length=24):Alls (all.set k s):=by
 refine⟨by rw[List.length_set]; exact h.lo,by rw[List.length_set]; exact h.hi,by rw[List.length_set]; exact h.even,fun i hi=>?_⟩
 rw[List.length_set] at hi;rw[pay_set k s hk]
 split
 ·exact hs
 ·exact h.full i hi
theorem Z6K (h:Alls all) (k:Nat) (hk:k<all.length) (s:List UInt8) (hs:s.length<=24):put (goodA all) k s=goodA (all.set k (pad s)):=by
 have h1:=h.lo;have h2:=h.hi;have h3:=h.even;have hp:=WP k all.length hk h.even;have w0:=mk_write (start:=0) (k:=k) (by omega) h.hi (by omega) h.le hk s hs
 rw[Nat.zero_add] at w0;have hx:(xors (pad s) (pay all (part k))).length=24:=by rw[Uk,pad_length s hs,h.full _ hp]; rfl
 have w2:=mk_write (n:=all.length / 2) (start:=512) (k:=k / 2) (pay:=fun j=>xors (pay all (2*j)) (pay all (2*j+1))) (by omega) (by omega) (by omega) (fun j hj=>by rw[h.xle j hj]; exact Nat.le_refl _) (by omega) (xors (pad s) (pay all (part k))) (by rw[hx]; exact Nat.le_refl _)
 unfold put;rw[JY h (part k) hp];show (((goodA all).set 0 (dvWrite (whole all.length 0 (pay all)) k k s).1).set 1 (dvWrite (whole all.length 0 (pay all)) k k s).1).set 2 (dvWrite (whole (all.length / 2) 512 (fun j=>xors (pay all (2*j)) (pay all (2*j+1)))) ((k / 2:Nat):Int) ((512+k / 2:Nat):Int) (xors (pad s) (pay all (part k)))).1=_
 rw[w0,w2];have m0:whole all.length 0 (fun i=>if i=k then s else pay all i)=whole (all.set k (pad s)).length 0 (pay (all.set k (pad s))):=by
  rw[List.length_set]
  apply Ue
  intro i hi;rw[pay_set k _ hk]
  by_cases e:i=k
  ·rw[if_pos e,if_pos e,QH _ s hs]
  ·rw[if_neg e,if_neg e]
 have m2:whole (all.length / 2) 512 (fun i=>if i=k / 2 then xors (pad s) (pay all (part k)) else xors (pay all (2*i)) (pay all (2*i+1)))=whole ((all.set k (pad s)).length / 2) 512 (fun j=>xors (pay (all.set k (pad s)) (2*j)) (pay (all.set k (pad s)) (2*j+1))):=by
  rw[List.length_set]
  apply Ue
  intro i hi
  congr 1
  by_cases e:i=k / 2
  ·subst e
   rw[if_pos rfl,two_xors,pay_set k _ hk,pay_set k _ hk,if_pos rfl,if_neg (Z7K k)]
  ·rw[if_neg e,pay_set k _ hk,pay_set k _ hk,if_neg (by omega),if_neg (by omega)]
 simp only[goodA,List.set,m0,m2]
theorem TH (h:Alls all) (k:Nat) (hk:k<all.length):arTouch (goodA all) k=0:=by
 rw[arTouch,if_pos (YJ h),if_pos (by rw[good_many]; omega)]
theorem Z3l (h:Alls all) (k:Nat) (hk:k<all.length) (s:List UInt8) (hs:s.length<=24):arWrite (goodA all) k s=(goodA (all.set k (pad s)),0):=by
 have e:(k:Int).toNat=k:=by omega
 rw[arWrite,if_pos (TH h k hk),if_neg (by omega),e,Z6K h k hk s hs]
theorem UU (h:Alls all) (k:Nat) (hk:k<all.length):arRead (goodA all) k=(pay all k,1,0):=by
 have e:(k:Int).toNat=k:=by omega
 rw[arRead,if_pos (TH h k hk),e,JY h k hk]
end
def zeroRows (n:Nat):List (List UInt8):=List.replicate n (List.replicate 24 0)
theorem WX (n i:Nat) (h:i<n):pay (zeroRows n) i=List.replicate 24 0:=by simp[pay,zeroRows,h]
theorem Ts (n:Nat) (h1:16<=n) (h2:n<=64) (h3:n % 2=0):Alls (zeroRows n):=by
 refine⟨by simp[zeroRows]; exact h1,by simp[zeroRows]; exact h2,by simp[zeroRows]; exact h3,fun i hi=>?_⟩
 rw[WX n i (by simpa[zeroRows] using hi)]
 simp
theorem Z1U (n:Nat) (h1:16<=n) (h2:n<=64) (h3:n % 2=0):arNew n=(goodA (zeroRows n),0):=by
 have e2:((n:Int) / 2)=((n / 2:Nat):Int):=by omega
 rw[arNew,if_pos (by omega),e2]
 have a:=Z7h n 0 (by omega) h2 (by omega)
 have b:=Z7h (n / 2) 512 (by omega) (by omega) (by omega)
 have a':dvNew n 0=(whole n 0 (fun _=>[]),0):=a
 have b':dvNew ((n / 2:Nat):Int) 512=(whole (n / 2) 512 (fun _=>[]),0):=b
 rw[a',b'];have hl:(zeroRows n).length=n:=by simp[zeroRows]
 have m0:whole n 0 (fun _=>[])=whole n 0 (pay (zeroRows n)):=by
  apply Ue
  intro i hi;rw[WX n i hi];exact (QH _ [] (by simp)).symm
 have m2:whole (n / 2) 512 (fun _=>[])=whole (n / 2) 512 (fun j=>xors (pay (zeroRows n) (2*j)) (pay (zeroRows n) (2*j+1))):=by
  apply Ue
  intro i hi;rw[WX n _ (by omega),WX n _ (by omega),Te]
  exact (QH _ [] (by simp)).symm
 simp only[goodA,hl]
 rw[m0,m2]
end Go.Proofs.YtdnacpbgodooaaaGreatDoor
namespace Go.Proofs.YtdnacpbgodooaaaGreatDoor
open Go.RowKit
section
variable {n start:Nat} {pay:Nat->List UInt8} {T:List Int} {D:Dv}
end
section
variable {all:List (List UInt8)}
def dn (all:List (List UInt8)) (k:Nat):Nat:=if k=2 then all.length / 2 else all.length
def ds (k:Nat):Nat:=if k=2 then 512 else 0
end
end Go.Proofs.YtdnacpbgodooaaaGreatDoor
namespace Go.Proofs.YtdnacpbgodooaaaGreatDoor
open Go.RowKit
def upd {α:Type} (f:Nat->α) (k:Nat) (v:α):Nat->α:=fun i=>if i=k then v else f i
section
variable {n start k:Nat} {pay:Nat->List UInt8} {f:Nat->Bool}
end
section
variable {all:List (List UInt8)} {f0 f1 f2:Nat->Bool}
theorem Alls.one (h:Alls all):1<=all.length:=by have:=h.lo; omega
theorem Alls.half (h:Alls all):1<=all.length / 2∧all.length / 2<=64:=by have:=h.lo; have:=h.hi; omega
end
end Go.Proofs.YtdnacpbgodooaaaGreatDoor
