import Derived.Test.YtdnacpbgodooaaaGreatDoorHigh
import Derived.Test.YtdnacpbgodooaaaGreatDoorArrM
import Derived.Lib.SlicesCompact
namespace Go.Proofs.YtdnacpbgodooaaaGreatDoor
open Go.RowKit
def known (A:Ar) (n:Nat):Bool:=decide ((tell A n).2.2=0∧(tell A (part n)).2.2=0)
def right (A:Ar) (n:Nat):Bool:=known A n&&decide ((pari A n).2=0∧(pari A n).1=xors (tell A n).1 (tell A (part n)).1)
def bad1 (A:Ar) (n:Nat):Int:=(if (dvRead (dev A 0) n n).2=0 then 0 else 1)+(if (dvRead (dev A 1) n n).2=0 then 0 else 1)+(if n % 2=0∧right A n=false then 1 else 0)
def Tq (A:Ar) (n:Int):Int × Int:=if arTouch A n=0 then (bad1 A n.toNat,0) else (0,arTouch A n)
def sick0 (A:Ar) (n:Nat):Bool:=decide ((tell A n).2.1≠1)
def sick1 (A:Ar) (n:Nat):Bool:=decide ((dvRead (dev A 1) n n).2≠0∨(dvRead (dev A 1) n n).1≠(tell A n).1)
def heal0 (A:Ar) (n:Nat):Ar:=if sick0 A n=true then A.set 0 (dvWrite (dev A 0) n n (tell A n).1).1 else A
def heal1 (A:Ar) (n:Nat):Ar:=if sick1 A n=true then (heal0 A n).set 1 (dvWrite (dev A 1) n n (tell A n).1).1 else heal0 A n
def sick2 (A:Ar) (n:Nat):Bool:=known (heal1 A n) n&&!right (heal1 A n) n
def heal2 (A:Ar) (n:Nat):Ar:=if sick2 A n=true then (heal1 A n).set 2 (dvWrite (dev (heal1 A n) 2) ((n / 2:Nat):Int) ((512+n / 2:Nat):Int) (xors (tell A n).1 (tell (heal1 A n) (part n)).1)).1 else heal1 A n
def healN (A:Ar) (n:Nat):Int:=(if sick0 A n=true then 1 else 0)+(if sick1 A n=true then 1 else 0)+(if sick2 A n=true then 1 else 0)
def arHeal (A:Ar) (n:Int):Ar × Int × Int:=if (arRead A n).2.2=0 then (heal2 A n.toNat,healN A n.toNat,0) else ([],0,(arRead A n).2.2)
theorem Tl {D:Dv} {p q:Nat} {s:ByteArray} {l:Bool} (hq:dvTouch D q=0) (hne:p≠q) (hs:s.size=30) (no:Int):dvRead (dvPut D p s l) q no=dvRead D q no:=by
 have ht:dvTouch (dvPut D p s l) q=0:=Xi hq hs;cases e:los D q with
 | true=>rw[read_lost ht no (by rw[los_put_other hne]; exact e),read_lost hq no e]
 | false=>rw[read_ok ht no (by rw[los_put_other hne]; exact e),read_ok hq no e,sec_put_other hne]
section
variable {n start:Nat} {pay:Nat->List UInt8} {T:List Int} {D:Dv}
end
section
variable {all:List (List UInt8)}
def pl (kd k:Nat):Nat:=if kd=2 then k / 2 else k
end
end Go.Proofs.YtdnacpbgodooaaaGreatDoor
namespace Go.Proofs.YtdnacpbgodooaaaGreatDoor
open Go.RowKit
structure Sc where
 A:Ar
 nx:Nat
 rd:Int
 ct:Int
 lo:Nat->Bool
def scOne (n:Nat) (s:Sc):Sc:=
 ⟨if (arHeal s.A s.nx).2.2=0 then (arHeal s.A s.nx).1 else s.A,if s.nx+1<n then s.nx+1 else 0,if s.nx+1<n then s.rd else s.rd+1,
  if (arHeal s.A s.nx).2.2=0 then s.ct+(arHeal s.A s.nx).2.1 else s.ct,if (arHeal s.A s.nx).2.2=0 then s.lo else upd s.lo s.nx true⟩
def scN (n:Nat) (s:Sc):Nat->Sc
 | 0=>s
 | k+1=>scOne n (scN n s k)
def scBegin (A:Ar) (nx:Nat) (rd:Int):Sc:=⟨A,nx,rd,0,fun _=>false⟩
def goneOf (n:Nat) (f:Nat->Bool):List Nat:=(List.range n).filter f
structure Tr where
 A:Ar
 nx:Int
 rd:Int
 ct:Int
 gone:List Nat
 e:Int
def VV (e:Int):Tr:=⟨[],0,0,0,[],e⟩
def Uw (n:Nat) (s:Sc):Tr:=⟨s.A,s.nx,s.rd,s.ct,goneOf n s.lo,0⟩
def arStep (A:Ar) (nx rd m:Int):Tr:=
 if Z2 A=true then (if (0<=nx∧nx<many A)∧0<=rd∧rd<=1073741824 then (if 0<=m∧m<=64 then Uw (many A) (scN (many A) (scBegin A nx.toNat rd) m.toNat) else VV 2) else VV 9) else VV 9
def badN (A:Ar):Nat->Int
 | 0=>0
 | k+1=>badN A k+bad1 A k
def Ye (A:Ar) (i:Nat):Bool:=decide ((arRead A i).2.2≠0)
def arHealth (A:Ar):Int × List Nat × Int:=if Z2 A=true then (badN A (many A),goneOf (many A) (Ye A),0) else (0,[],9)
theorem UV (n:Nat) (f:Nat->Bool):goneOf (n+1) f=if f n=true then goneOf n f++[n] else goneOf n f:=by
 unfold goneOf;rw[List.range_succ,List.filter_append];cases h:f n <;> simp[h]
def nxAt (n nx k:Nat):Nat:=(nx+k) % n
theorem Z4B (n nx k:Nat) (hn:nx<n):(if nxAt n nx k+1<n then nxAt n nx k+1 else 0)=nxAt n nx (k+1):=by
 have h0:0<n:=by omega
 have hl:=Nat.mod_lt (nx+k) h0;have e:nx+(k+1)=nx+k+1:=by omega
 unfold nxAt;rw[e,Nat.add_mod (nx+k) 1 n]
 by_cases h1:n=1
 ·subst h1; simp[Nat.mod_one]
 ·rw[Nat.mod_eq_of_lt (show 1<n by omega)]
  split
  ·rename_i h; exact (Nat.mod_eq_of_lt h).symm
  ·rename_i h
   have:(nx+k) % n+1=n:=by omega
   rw[this,Nat.mod_self]
theorem Jq (n:Nat) (A:Ar) (nx:Nat) (rd:Int) (hn:nx<n):∀ k,(scN n (scBegin A nx rd) k).nx=nxAt n nx k
 | 0=>(Nat.mod_eq_of_lt hn).symm
 | k+1=>by
  show (if (scN n _ k).nx+1<n then (scN n _ k).nx+1 else 0)=_
  rw[Jq n A nx rd hn k];exact Z4B n nx k hn
section
variable {all:List (List UInt8)}
end
end Go.Proofs.YtdnacpbgodooaaaGreatDoor
namespace Go.Proofs.YtdnacpbgodooaaaGreatDoor
open Go.RowKit
def tellsD (D:Dv) (p no:Int) (s:List UInt8):Bool:=decide ((dvRead D p no).2=0∧(dvRead D p no).1=s)
def renA (A:Ar) (d:Nat) (p no:Int) (s:List UInt8):Ar:=if tellsD (dev A d) p no s=true then A else A.set d (dvWrite (dev A d) p no s).1
def renN (A:Ar) (d:Nat) (p no:Int) (s:List UInt8):Int:=if tellsD (dev A d) p no s=true then 0 else 1
theorem WT (A:Ar) (i j:Nat) (D:Dv) (h:i≠j):dev (A.set i D) j=dev A j:=by simp[dev,List.getElem?_set_ne h]
theorem Z1e (A:Ar) (i j:Nat) (D:Dv) (hi:i<A.length):dev (A.set i D) j=if j=i then D else dev A j:=by
 by_cases e:j=i
 ·subst e; simp[dev,hi]
 ·rw[if_neg e,WT A i j D (fun x=>e x.symm)]
theorem Z7B (A:Ar) (hm:Z2 A=true) (i:Nat) (hi:i<3) (D:Dv) (hD:dvMay D=true) (hl:D.1.length=(dev A i).1.length):Z2 (A.set i D)=true∧many (A.set i D)=many A:=by
 have hh:=(arMay_iff A).1 hm;have hd:∀ j,(dev (A.set i D) j).1.length=(dev A j).1.length:=fun j=>by
  rw[Z1e A i j D (by rw[hh.1]; exact hi)]
  split
  ·rename_i e; rw[e]; exact hl
  ·rfl
 have hmn:many (A.set i D)=many A:=hd 0;refine⟨(arMay_iff _).2 ⟨by rw[List.length_set]; exact hh.1,fun E hE=>?_,?_⟩,hmn⟩
 ·rcases List.mem_or_eq_of_mem_set hE with h | rfl
  ·exact hh.2.1 E h
  ·exact hD
 ·rw[hmn,hd 1,hd 2]; exact hh.2.2
theorem JO (A:Ar) (hm:Z2 A=true) (k:Nat) (hk:k<many A):dvTouch (dev A 0) k=0∧dvTouch (dev A 1) k=0∧dvTouch (dev A 2) ((k / 2:Nat):Int)=0:=by
 have hh:=(arMay_iff A).1 hm;have hd:∀ i,i<3->dvMay (dev A i)=true:=fun i hi=>hh.2.1 _ (WU A i (by rw[hh.1]; exact hi))
 refine⟨(Zu _ _).2 ⟨hd 0 (by omega),hk⟩,(Zu _ _).2 ⟨hd 1 (by omega),by rw[hh.2.2.2.2.2.1]; exact hk⟩,(Zu _ _).2 ⟨hd 2 (by omega),by rw[hh.2.2.2.2.2.2]; omega⟩⟩
theorem Z3M (D:Dv) (k:Nat) (no:Int) (s:List UInt8) (ht:dvTouch D k=0) (h0:0<=no) (h1:no<=65535) (hs:s.length=24):
  dvMay (dvWrite D k no s).1=true∧(dvWrite D k no s).1.1.length=D.1.length∧dvRead (dvWrite D k no s).1 k no=(s,0)∧∀ j:Nat,dvTouch D j=0->k≠j->∀ m,dvRead (dvWrite D k no s).1 j m=dvRead D j m:=by
 have hz:=XK no s (by omega)
 have ht2:=Xi (D:=D) (k:=k) (s:=str (sealed (body no s))) (l:=false) ht hz;rw[WY ht no s h0 h1 (by omega)]
 refine⟨((Zu _ _).1 ht2).1,(XM _ _ _ _).1,?_,fun j hj hne m=>Tl hj hne hz m⟩
 rw[read_ok ht2 no (UN (len2 ht).2),Q4 (len2 ht).1,str_list];have e:=Vr no s h0 h1 (by omega)
 rw[encd_ok no s h0 h1 (by omega)] at e
 rw[e,Qh s hs]
theorem Z2L (B:Ar) (n:Nat) (s:List UInt8) (e:dvRead (dev B 0) n n=(s,0)):tell B n=(s,1,0):=by
 have em:mirr B n=(s,1):=by unfold mirr; rw[e,if_pos rfl]
 unfold tell;rw[em,if_pos (show (0:Int)<1 by decide)]
theorem Z1G (A:Ar) (n:Nat):sick0 A n=!tellsD (dev A 0) n n (tell A n).1:=by
 unfold sick0 tellsD
 by_cases e0:(dvRead (dev A 0) n n).2=0
 ·have em:mirr A n=((dvRead (dev A 0) n n).1,1):=by unfold mirr; rw[if_pos e0]
  have et:tell A n=((dvRead (dev A 0) n n).1,1,0):=by unfold tell; rw[em,if_pos (show (0:Int)<1 by decide)]
  rw[et];simp[e0]
 ·have:(tell A n).2.1≠1:=by
   have hm2:(mirr A n).2≠1:=by
    unfold mirr;rw[if_neg e0]
    split <;> simp
   unfold tell
   split
   ·exact hm2
   ·split <;> simp
  simp[this,e0]
theorem sick1_eq (A:Ar) (n:Nat):sick1 A n=!tellsD (dev A 1) n n (tell A n).1:=by
 unfold sick1 tellsD
 by_cases e0:(dvRead (dev A 1) n n).2=0
 ·by_cases e1:(dvRead (dev A 1) n n).1=(tell A n).1 <;> simp[e0,e1]
 ·simp[e0]
theorem Qv (A:Ar) (n:Nat):heal0 A n=renA A 0 n n (tell A n).1:=by
 unfold heal0 renA;rw[Z1G A n];cases tellsD (dev A 0) n n (tell A n).1 <;> simp
theorem UR (A:Ar) (n:Nat):dev (heal0 A n) 1=dev A 1∧dev (heal0 A n) 2=dev A 2:=by
 unfold heal0
 split
 ·exact⟨WT A 0 1 _ (by decide),WT A 0 2 _ (by decide)⟩
 ·exact⟨rfl,rfl⟩
theorem Z29 (A:Ar) (n:Nat):heal1 A n=renA (heal0 A n) 1 n n (tell A n).1:=by
 unfold heal1 renA;rw[sick1_eq A n,(UR A n).1];cases tellsD (dev A 1) n n (tell A n).1 <;> simp
theorem Z0N (A:Ar) (hm:Z2 A=true) (d:Nat) (hd:d<3) (p:Nat) (no:Int) (s:List UInt8) (ht:dvTouch (dev A d) p=0) (h0:0<=no) (h1:no<=65535) (hs:s.length=24):
  Z2 (renA A d p no s)=true∧many (renA A d p no s)=many A∧dvRead (dev (renA A d p no s) d) p no=(s,0)∧∀ j,j≠d->dev (renA A d p no s) j=dev A j:=by
 unfold renA
 split
 ·rename_i e
  unfold tellsD at e;rw[decide_eq_true_eq] at e;exact⟨hm,rfl,Prod.ext e.2 e.1,fun _ _=>rfl⟩
 ·obtain⟨w1,w2,w3,_⟩:=Z3M _ p no s ht h0 h1 hs
  obtain⟨m1,m2⟩:=Z7B A hm d hd _ w1 w2;have hl:d<A.length:=by rw[((arMay_iff A).1 hm).1]; exact hd
  refine⟨m1,m2,?_,fun j hj=>?_⟩
  ·rw[Z1e A d d _ hl,if_pos rfl]; exact w3
  ·rw[Z1e A d j _ hl,if_neg hj]
theorem Vi (A:Ar) (hm:Z2 A=true) (n:Nat) (hn:n<many A) (h:(tell A n).2.2=0):Z2 (heal0 A n)=true∧Z2 (heal1 A n)=true∧many (heal1 A n)=many A∧tell (heal1 A n) n=((tell A n).1,1,0):=by
 have hb:=((arMay_iff A).1 hm).2.2.2.1;have hl:=ZR A n h;obtain⟨t0,t1,_⟩:=JO A hm n hn;obtain⟨a1,a2,a3,a4⟩:=Z0N A hm 0 (by decide) n n _ t0 (by omega) (by omega) hl
 rw[<- Qv A n] at a1 a2 a3 a4;obtain⟨b1,b2,b3,b4⟩:=Z0N (heal0 A n) a1 1 (by decide) n n _ (by rw[a4 1 (by decide)]; exact t1) (by omega) (by omega) hl
 rw[<- Z29 A n] at b1 b2 b3 b4;refine⟨a1,b1,b2.trans a2,?_⟩
 have e0:dvRead (dev (heal1 A n) 0) n n=((tell A n).1,0):=by rw[b4 0 (by decide)]; exact a3
 exact Z2L _ n _ e0
theorem sick2_eq (A:Ar) (n:Nat):sick2 A n=(known (heal1 A n) n&&!tellsD (dev (heal1 A n) 2) ((n / 2:Nat):Int) ((512+n / 2:Nat):Int) (xors (tell (heal1 A n) n).1 (tell (heal1 A n) (part n)).1)):=by
 unfold sick2 right tellsD pari;cases known (heal1 A n) n <;> rfl
theorem Z28 (A:Ar) (hm:Z2 A=true) (n:Nat) (hn:n<many A) (h:(tell A n).2.2=0):
  heal2 A n=if known (heal1 A n) n=true then renA (heal1 A n) 2 ((n / 2:Nat):Int) ((512+n / 2:Nat):Int) (xors (tell (heal1 A n) n).1 (tell (heal1 A n) (part n)).1) else heal1 A n:=by
 have e:(tell (heal1 A n) n).1=(tell A n).1:=by rw[(Vi A hm n hn h).2.2.2]
 unfold heal2;rw[sick2_eq A n,e];unfold renA;cases known (heal1 A n) n
 ·rfl
 ·cases tellsD (dev (heal1 A n) 2) ((n / 2:Nat):Int) ((512+n / 2:Nat):Int) (xors (tell A n).1 (tell (heal1 A n) (part n)).1) <;> simp
theorem Z6E (A:Ar) (n:Nat):
  healN A n=renN A 0 n n (tell A n).1+renN (heal0 A n) 1 n n (tell A n).1+if known (heal1 A n) n=true then renN (heal1 A n) 2 ((n / 2:Nat):Int) ((512+n / 2:Nat):Int) (xors (tell (heal1 A n) n).1 (tell (heal1 A n) (part n)).1) else 0:=by
 unfold healN renN;rw[Z1G A n,sick1_eq A n,sick2_eq A n,(UR A n).1];cases tellsD (dev A 0) n n (tell A n).1 <;> cases tellsD (dev A 1) n n (tell A n).1 <;> cases known (heal1 A n) n <;> cases tellsD (dev (heal1 A n) 2) ((n / 2:Nat):Int) ((512+n / 2:Nat):Int) (xors (tell (heal1 A n) n).1 (tell (heal1 A n) (part n)).1) <;> rfl
theorem Z1D (a b:List UInt8):((str a).toList==(str b).toList)=decide (a=b):=by
 rw[ByteArray.toList_eq,ByteArray.toList_eq,str_list,str_list,Bool.eq_iff_iff];simp only[beq_iff_eq,decide_eq_true_eq]
end Go.Proofs.YtdnacpbgodooaaaGreatDoor
namespace Go.Proofs.YtdnacpbgodooaaaGreatDoor
open Go.RowKit Go.Lib
theorem UD:∀ (l m:List Int),l.Pairwise (·<·)->m.Pairwise (·<·)->(∀ x,x∈l↔x∈m)->l=m
 | [],[],_,_,_=>rfl
 | [],b::m,_,_,h=>absurd ((h b).2 List.mem_cons_self) List.not_mem_nil
 | a::l,[],_,_,h=>absurd ((h a).1 List.mem_cons_self) List.not_mem_nil
 | a::l,b::m,hl,hm,h=>by
  rw[List.pairwise_cons] at hl hm;have e:a=b:=by
   rcases List.mem_cons.1 ((h a).1 List.mem_cons_self) with e | e
   ·exact e
   ·rcases List.mem_cons.1 ((h b).2 List.mem_cons_self) with f | f
    ·exact f.symm
    ·have:=hm.1 a e
     have:=hl.1 b f
     omega
  subst e;rw[UD l m hl.2 hm.2 fun x=>⟨fun hx=>?_,fun hx=>?_⟩]
  ·rcases List.mem_cons.1 ((h x).1 (List.mem_cons_of_mem _ hx)) with e | e
   ·have:=hl.1 x hx; omega
   ·exact e
  ·rcases List.mem_cons.1 ((h x).2 (List.mem_cons_of_mem _ hx)) with e | e
   ·have:=hm.1 x hx; omega
   ·exact e
theorem TO (d:Array Int) (hd:∀ i j,i<=j->j<d.size->d[i]! <= d[j]!):∀ m,m<=d.size->(compactUpTo d m).Pairwise (·<·)∧∀ x,x∈compactUpTo d m↔∃ j,j<m∧d[j]! = x
 | 0,_=>⟨by simp[compactUpTo],fun x=>by simp[compactUpTo]⟩
 | m+1,hm=>by
  obtain⟨h1,h2⟩:=TO d hd m (by omega)
  rw[compactUpTo_succ]
  by_cases k:Go.Lib.keeps d m=true
  ·rw[if_pos k]
   refine⟨?_,fun x=>?_⟩
   ·rw[List.pairwise_append]
    refine⟨h1,List.pairwise_singleton _ _,fun x hx y hy=>?_⟩
    obtain⟨j,hj,rfl⟩:=(h2 x).1 hx;rw[List.mem_singleton.1 hy];have ne:d[m]! ≠ d[m-1]! := by
     have:=of_decide_eq_true k
     rcases this with e | e
     ·omega
     ·exact e
    have a1:=hd j (m-1) (by omega) (by omega)
    have a2:=hd (m-1) m (by omega) (by omega)
    omega
   ·rw[List.mem_append,List.mem_singleton,h2]
    constructor
    ·rintro (⟨j,hj,e⟩ | e)
     ·exact⟨j,by omega,e⟩
     ·exact⟨m,by omega,e.symm⟩
    ·rintro⟨j,hj,e⟩
     by_cases c:j=m
     ·subst c; exact .inr e.symm
     ·exact .inl ⟨j,by omega,e⟩
  ·rw[if_neg k,List.append_nil]
   refine⟨h1,fun x=>?_⟩
   rw[h2];constructor
   ·rintro⟨j,hj,e⟩; exact⟨j,by omega,e⟩
   ·rintro⟨j,hj,e⟩
    by_cases c:j=m
    ·subst c
     have hk:¬ (j=0∨d[j]! ≠ d[j-1]!):=fun h=>k (decide_eq_true h)
     refine⟨j-1,?_,?_⟩
     ·rcases Nat.eq_zero_or_pos j with z | z
      ·exact absurd (.inl z) hk
      ·omega
     ·rw[<- e]
      exact (Classical.byContradiction fun h=>hk (.inr fun h'=>h h'.symm))
    ·exact⟨j,by omega,e⟩
theorem Z0z (n:Nat) (L:List Nat) (hL:∀ x∈L,x<n) (f:Nat->Bool) (hf:∀ i,f i=decide (i∈L)):
  compact ((L.map Int.ofNat).mergeSort fun x y=>decide (x<=y))=(goneOf n f).map Int.ofNat:=by
 obtain⟨S,hS⟩:∃ S,S=(L.map Int.ofNat).mergeSort fun x y=>decide (x<=y):=⟨_,rfl⟩
 have hp:S.Pairwise (fun x y=>decide (x<=y)=true):=by
  rw[hS];exact List.pairwise_mergeSort (fun a b c h1 h2=>by simp at *; omega) (fun a b=>by simp; omega) _
 have hm:∀ x,x∈S↔x∈L.map Int.ofNat:=fun x=>by rw[hS]; exact List.mem_mergeSort
 rw[<- hS];have hd:∀ i j,i<=j->j<S.toArray.size->S.toArray[i]! <= S.toArray[j]! := fun i j h1 h2=>by
  have h2':j<S.length:=by simpa using h2
  have h3:i<S.length:=by omega
  have e1:S.toArray[i]! = S[i]:=by rw[getElem!_pos S.toArray i (by simpa using h3)]; simp
  have e2:S.toArray[j]! = S[j]:=by rw[getElem!_pos S.toArray j (by simpa using h2')]; simp
  rw[e1,e2]
  by_cases e:i=j
  ·subst e; exact Int.le_refl _
  ·exact of_decide_eq_true (List.pairwise_iff_getElem.1 hp i j h3 h2' (by omega))
 obtain⟨c1,c2⟩:=TO S.toArray hd S.length (by simp)
 refine UD _ _ c1 ?_ fun x=>?_
 ·unfold goneOf
  rw[List.pairwise_map];refine List.Pairwise.imp ?_ (List.Pairwise.filter _ List.pairwise_lt_range)
  intro a b h;exact Int.ofNat_lt.2 h
 ·rw[show compact S=compactUpTo S.toArray S.length from rfl,c2]
  have:(∃ j,j<S.length∧S.toArray[j]! = x)↔x∈S:=by
   rw[List.mem_iff_getElem];constructor
   ·rintro⟨j,hj,e⟩
    refine⟨j,hj,?_⟩
    rw[getElem!_pos S.toArray j (by simpa using hj)] at e
    simpa using e
   ·rintro⟨j,hj,e⟩
    refine⟨j,hj,?_⟩
    rw[getElem!_pos S.toArray j (by simpa using hj)]
    simpa using e
  rw[this,hm];unfold goneOf;simp only[List.mem_map,List.mem_filter,List.mem_range,hf,decide_eq_true_eq]
  constructor
  ·rintro⟨a,ha,e⟩; exact⟨a,⟨hL a ha,ha⟩,e⟩
  ·rintro⟨a,⟨_,ha⟩,e⟩; exact⟨a,ha,e⟩
def ups (L:List Nat):List Int:=L.map Int.ofNat
theorem Z1B (L:List Nat) (n:Nat):ups (L++[n])=ups L++[(n:Int)]:=by unfold ups; rw[List.map_append]; rfl
theorem Xp (L:List Nat):(ups L).length=L.length:=by simp[ups]
def scG (n:Nat) (s:Sc):Nat->List Nat
 | 0=>[]
 | k+1=>if (arHeal (scN n s k).A (scN n s k).nx).2.2=0 then scG n s k else scG n s k++[(scN n s k).nx]
theorem Z4a (n:Nat) (s:Sc):∀ k,(scG n s k).length<=k
 | 0=>Nat.le_refl _
 | k+1=>by
  have:=Z4a n s k
  unfold scG
  split
  ·omega
  ·rw[List.length_append]; simp; omega
theorem Z7f (n:Nat) (A:Ar) (nx:Nat) (rd:Int):∀ k i,(scN n (scBegin A nx rd) k).lo i=decide (i∈scG n (scBegin A nx rd) k)
 | 0,i=>by simp[scN,scBegin,scG]
 | k+1,i=>by
  have h:=Z7f n A nx rd k i;show (if _ then _ else upd _ _ true) i=_
  unfold scG
  split
  ·exact h
  ·show (if i=_ then true else _)=_
   split
   ·rename_i e
    rw[decide_eq_true];rw[e]; simp
   ·rename_i e
    rw[h]
    congr 1
    simp[e]
theorem Z49 (n:Nat) (A:Ar) (nx:Nat) (rd:Int) (hn:nx<n):∀ k,∀ x∈scG n (scBegin A nx rd) k,x<n
 | 0,x,hx=>by cases hx
 | k+1,x,hx=>by
  unfold scG at hx
  split at hx
  ·exact Z49 n A nx rd hn k x hx
  ·rcases List.mem_append.1 hx with h | h
   ·exact Z49 n A nx rd hn k x h
   ·rw[List.mem_singleton.1 h,Jq n A nx rd hn k]
    exact Nat.mod_lt _ (by omega)
theorem Z68 (n:Nat) (A:Ar) (nx:Nat) (rd:Int) (hn:nx<n) (k:Nat):
  compact ((ups (scG n (scBegin A nx rd) k)).mergeSort fun x y=>decide (x<=y))=ups (goneOf n (scN n (scBegin A nx rd) k).lo):=
 Z0z n _ (Z49 n A nx rd hn k) _ (Z7f n A nx rd k)
theorem Qu (A:Ar) (hm:Z2 A=true) (n:Nat) (hn:n<many A) (h:(arHeal A n).2.2=0):Z2 (arHeal A n).1=true∧many (arHeal A n).1=many A:=by
 have hr:(arRead A n).2.2=0:=by
  unfold arHeal at h
  split at h
  ·assumption
  ·exact h
 have ht:(tell A n).2.2=0:=by rw[Zl A n hm hn] at hr; exact hr
 rw[arHeal,if_pos hr,show (n:Int).toNat=n by omega]
 obtain⟨_,h1,h2,_⟩:=Vi A hm n hn ht;show Z2 (heal2 A n)=true∧many (heal2 A n)=many A
 rw[Z28 A hm n hn ht]
 split
 ·rename_i hk
  have hk2:(tell (heal1 A n) n).2.2=0∧(tell (heal1 A n) (part n)).2.2=0:=of_decide_eq_true hk;have hb:=((arMay_iff A).1 hm).2.2.2.1;obtain⟨r1,r2,_⟩:=Z0N (heal1 A n) h1 2 (by decide) (n / 2) ((512+n / 2:Nat):Int) (xors (tell (heal1 A n) n).1 (tell (heal1 A n) (part n)).1) (JO _ h1 n (by rw[h2]; exact hn)).2.2 (by omega) (by omega) (by rw[TV,ZR _ _ hk2.1,ZR _ _ hk2.2]; rfl)
  exact⟨r1,r2.trans h2⟩
 ·exact⟨h1,h2⟩
theorem Q5 (n:Nat) (A:Ar) (nx:Nat) (rd:Int) (hm:Z2 A=true) (hn:many A=n) (hx:nx<n):∀ k,Z2 (scN n (scBegin A nx rd) k).A=true∧many (scN n (scBegin A nx rd) k).A=n
 | 0=>⟨hm,hn⟩
 | k+1=>by
  obtain⟨h1,h2⟩:=Q5 n A nx rd hm hn hx k;have hlt:(scN n (scBegin A nx rd) k).nx<n:=by rw[Jq n A nx rd hx k]; exact Nat.mod_lt _ (by omega)
  show Z2 (if _ then _ else _)=true∧many (if _ then _ else _)=n
  split
  ·rename_i h
   have:=Qu _ h1 _ (by rw[h2]; exact hlt) h
   rw[h2] at this;exact this
  ·exact⟨h1,h2⟩
theorem Z48 (n:Nat) (A:Ar) (nx:Nat) (rd:Int):∀ k:Nat,0<=(scN n (scBegin A nx rd) k).ct∧(scN n (scBegin A nx rd) k).ct<=3*k
 | 0=>⟨Int.le_refl _,Int.le_refl _⟩
 | k+1=>by
  obtain⟨h1,h2⟩:=Z48 n A nx rd k;have e:(scN n (scBegin A nx rd) (k+1)).ct=if (arHeal (scN n (scBegin A nx rd) k).A (scN n (scBegin A nx rd) k).nx).2.2=0 then (scN n (scBegin A nx rd) k).ct+(arHeal (scN n (scBegin A nx rd) k).A (scN n (scBegin A nx rd) k).nx).2.1 else (scN n (scBegin A nx rd) k).ct:=rfl
  rw[e];have hb:0<=(arHeal (scN n (scBegin A nx rd) k).A (scN n (scBegin A nx rd) k).nx).2.1∧(arHeal (scN n (scBegin A nx rd) k).A (scN n (scBegin A nx rd) k).nx).2.1<=3:=by
   unfold arHeal
   split
   ·show 0<=healN _ _∧healN _ _<=3
    unfold healN
    split <;> split <;> split <;> omega
   ·exact⟨Int.le_refl _,show (0:Int)<=3 by decide⟩
  constructor <;> split <;> omega
theorem Z1u (A:Ar):∀ k:Nat,0<=badN A k∧badN A k<=3*k
 | 0=>⟨Int.le_refl _,Int.le_refl _⟩
 | k+1=>by
  have:=Z1u A k
  have:0<=bad1 A k∧bad1 A k<=3:=by unfold bad1; split <;> split <;> split <;> omega
  unfold badN;omega
end Go.Proofs.YtdnacpbgodooaaaGreatDoor
