import Derived.Lib.Bytealg
import Derived.Test.YtdnacpbgodooaaaGreatDoorArrM
import Derived.Test.YtdnacpbgodooaaaGreatDoorHigh
namespace Go.Proofs.YtdnacpbgodooaaaGreatDoor
open Go.RowKit
def lss (s t:ByteArray):Bool:=Op.bytesLess s.toList t.toList
theorem Z7n:∀ l:List UInt8,Op.bytesLess l l=false
 | []=>rfl
 | a::x=>by simp[Op.bytesLess,Z7n x]
theorem bl_trans:∀ a b c:List UInt8,Op.bytesLess a b=true->Op.bytesLess b c=true->Op.bytesLess a c=true
 | _,[],_,h,_=>by simp[Op.bytesLess] at h
 | _,_::_,[],_,h=>by simp[Op.bytesLess] at h
 | [],_::_,_::_,_,_=>by simp[Op.bytesLess]
 | a::x,b::y,c::z,h,h'=>by
  simp only[Op.bytesLess,Bool.or_eq_true,decide_eq_true_eq,Bool.and_eq_true,beq_iff_eq] at h h' ⊢
  rcases h with h | ⟨rfl,h⟩
  ·rcases h' with h' | ⟨rfl,h'⟩
   ·left; exact UInt8.lt_trans h h'
   ·left; exact h
  ·rcases h' with h' | ⟨rfl,h'⟩
   ·left; exact h'
   ·right; exact⟨rfl,bl_trans x y z h h'⟩
theorem Z7m:∀ a b:List UInt8,Op.bytesLess a b=false->Op.bytesLess b a=false->a=b
 | [],[],_,_=>rfl
 | [],_::_,h,_=>by simp[Op.bytesLess] at h
 | _::_,[],_,h=>by simp[Op.bytesLess] at h
 | a::x,b::y,h,h'=>by
  simp only[Op.bytesLess,Bool.or_eq_false_iff,decide_eq_false_iff_not,Bool.and_eq_false_iff,beq_eq_false_iff_ne] at h h'
  have e:a=b:=UInt8.le_antisymm (UInt8.not_lt.1 h'.1) (UInt8.not_lt.1 h.1);subst e;have h1:Op.bytesLess x y=false:=by rcases h.2 with q | q; exact absurd rfl q; exact q
  have h2:Op.bytesLess y x=false:=by rcases h'.2 with q | q; exact absurd rfl q; exact q
  rw[Z7m x y h1 h2]
theorem Z2o:∀ a b:List UInt8,decide (Lib.compareBytes a b<0)=Op.bytesLess a b
 | [],[]=>by simp[Lib.compareBytes,Op.bytesLess]
 | [],_::_=>by simp[Lib.compareBytes,Op.bytesLess]
 | _::_,[]=>by simp[Lib.compareBytes,Op.bytesLess]
 | a::x,b::y=>by
  have ih:=Z2o x y;simp only[Op.bytesLess]
  by_cases h:a<b
  ·simp[Lib.compareBytes,h]
  ·by_cases h2:b<a
   ·have h3:a≠b:=fun e=>by subst e; exact h h2
    simp[Lib.compareBytes,h,h2,h3]
   ·have e:a=b:=UInt8.le_antisymm (UInt8.not_lt.1 h2) (UInt8.not_lt.1 h)
    subst e;have e2:Lib.compareBytes (a::x) (a::y)=Lib.compareBytes x y:=by simp[Lib.compareBytes,h]
    rw[e2,ih]
    simp
theorem toL_inj {s t:ByteArray} (h:s.toList=t.toList):s=t:=by
 rw[ByteArray.toList_eq,ByteArray.toList_eq] at h;rw[<- V7 s,<- V7 t,h]
theorem WS (s:ByteArray):lss s s=false:=Z7n _
theorem Wd {a b c:ByteArray} (h:lss a b=true) (h':lss b c=true):lss a c=true:=bl_trans _ _ _ h h'
theorem Qp {a b:ByteArray} (h:lss a b=false) (h':lss b a=false):a=b:=toL_inj (Z7m _ _ h h')
theorem lss_asym {a b:ByteArray} (h:lss a b=true):lss b a=false:=by
 cases h':lss b a with
 | false=>rfl
 | true=>have:=Wd h h'; rw[WS] at this; cases this
theorem Vy (s t:ByteArray):ZE s t=false↔lss t s=true:=by
 unfold ZE;constructor
 ·intro h
  rw[Bool.or_eq_false_iff] at h;cases h':lss t s with
  | true=>rfl
  | false=>
   have e:=Qp h' h.1;subst e
   have:=h.2
   simp at this
 ·intro h
  rw[Bool.or_eq_false_iff];refine⟨lss_asym h,?_⟩
  rw[beq_eq_false_iff_ne];intro e
  have:=toL_inj e
  subst this;rw[WS] at h; cases h
theorem Z3G (s t:ByteArray) (h:ZE s t=true) (hne:s≠t):lss s t=true:=by
 cases h':lss s t with
 | true=>rfl
 | false=>
  cases h2:lss t s with
  | true=>rw[(Vy s t).2 h2] at h; cases h
  | false=>exact absurd (Qp h' h2) hne
def insE:List En->En->List En
 | [],x=>[x]
 | y::r,x=>if ZE y.s x.s=true then y::insE r x else x::y::r
def insAll (E N:List En):List En:=N.foldl insE E
def grt (E:List En) (x:En):Bool:=E.any fun y=>!ZE y.s x.s
theorem Z6z (E:List En) (x:En) (h:grt E x=false):insE E x=E++[x]:=by
 induction E with
 | nil=>rfl
 | cons y r ih=>
  simp only[grt,List.any_cons,Bool.or_eq_false_iff,Bool.not_eq_false'] at h
  rw[insE,if_pos h.1,ih h.2]; rfl
theorem Z7X (E R:List En) (x:En) (h:grt E x=true):insE (E++R) x=insE E x++R:=by
 induction E with
 | nil=>simp[grt] at h
 | cons y r ih=>
  rw[List.cons_append,insE,insE]
  by_cases hy:ZE y.s x.s=true
  ·rw[if_pos hy,if_pos hy,List.cons_append,ih]
   simpa[grt,hy] using h
  ·rw[if_neg hy,if_neg hy]; rfl
theorem grt_snoc (E:List En) (y x:En):grt (E++[y]) x=(grt E x||!ZE y.s x.s):=by simp[grt]
theorem Z6A (E:List En) (y x:En) (h:grt E x=false) (hy:ZE y.s x.s=false):insE (E++[y]) x=E++[x]++[y]:=by
 induction E with
 | nil=>simp[insE,hy]
 | cons z r ih=>
  simp only[grt,List.any_cons,Bool.or_eq_false_iff,Bool.not_eq_false'] at h
  rw[List.cons_append,insE,if_pos h.1,ih h.2]; rfl
theorem Qr (E:List En) (x:En):(insE E x).Perm (x::E):=by
 induction E with
 | nil=>exact List.Perm.refl _
 | cons y r ih=>
  rw[insE]
  split
  ·exact (List.Perm.cons y ih).trans (List.Perm.swap x y r)
  ·exact List.Perm.refl _
theorem UO (E N:List En) (x:En):insAll E (N++[x])=insE (insAll E N) x:=by simp[insAll]
theorem ZQ (E N:List En):(insAll E N).Perm (E++N):=by
 induction N generalizing E with
 | nil=>simp[insAll]
 | cons x N ih=>
  show (insAll (insE E x) N).Perm _
  refine (ih _).trans ?_
  refine ((Qr E x).append_right N).trans ?_
  exact List.perm_middle.symm
theorem Z7W (E:List En) (x:En):(insE E x).length=E.length+1:=by rw[(Qr E x).length_eq]; rfl
theorem insAll_len (E N:List En):(insAll E N).length=E.length+N.length:=by rw[(ZQ E N).length_eq,List.length_append]
def Srt (E:List En):Prop:=E.Pairwise fun x y=>lss x.s y.s=true
def hasE (E:List En) (s:ByteArray):Bool:=E.any fun y=>y.s.toList==s.toList
theorem hasE_iff (E:List En) (s:ByteArray):hasE E s=true↔∃ y∈E,y.s=s:=by
 simp only[hasE,List.any_eq_true,beq_iff_eq]
 constructor
 ·rintro⟨y,hy,h⟩; exact⟨y,hy,toL_inj h⟩
 ·rintro⟨y,hy,h⟩; exact⟨y,hy,by rw[h]⟩
theorem Z50 {E E':List En} (h:E.Perm E') (s:ByteArray):hasE E s=hasE E' s:=by
 rw[Bool.eq_iff_iff,hasE_iff,hasE_iff];constructor
 ·rintro⟨y,hy,e⟩; exact⟨y,h.mem_iff.1 hy,e⟩
 ·rintro⟨y,hy,e⟩; exact⟨y,h.mem_iff.2 hy,e⟩
theorem Z7U (E:List En) (x:En) (h:Srt E) (hx:hasE E x.s=false):Srt (insE E x):=by
 induction E with
 | nil=>exact List.pairwise_singleton _ _
 | cons y r ih=>
  obtain⟨h1,h2⟩:=List.pairwise_cons.1 h;have hne:y.s≠x.s:=fun e=>by
   have:hasE (y::r) x.s=true:=(hasE_iff _ _).2 ⟨y,List.mem_cons_self,e⟩
   rw[this] at hx; cases hx
  have hr:hasE r x.s=false:=by
   cases hh:hasE r x.s with
   | false=>rfl
   | true=>
    obtain⟨z,hz,e⟩:=(hasE_iff _ _).1 hh
    have:hasE (y::r) x.s=true:=(hasE_iff _ _).2 ⟨z,List.mem_cons_of_mem _ hz,e⟩
    rw[this] at hx; cases hx
  rw[insE]
  split
  ·rename_i hy
   refine List.pairwise_cons.2 ⟨fun z hz=>?_,ih h2 hr⟩
   rcases List.mem_cons.1 ((Qr r x).mem_iff.1 hz) with rfl | hz
   ·exact Z3G _ _ hy hne
   ·exact h1 z hz
  ·rename_i hy
   have hyx:lss x.s y.s=true:=(Vy _ _).1 (by simpa using hy)
   refine List.pairwise_cons.2 ⟨fun z hz=>?_,h⟩
   rcases List.mem_cons.1 hz with rfl | hz
   ·exact hyx
   ·exact Wd hyx (h1 z hz)
theorem Z7z (E X:List En) (hp:E.Perm X) (hX:Srt X) (hE:E.Pairwise fun x y=>lss y.s x.s=false):E=X:=by
 refine List.Perm.eq_of_pairwise (le:=fun x y:En=>lss y.s x.s=false) (fun a b ha hb h1 h2=>?_) hE (hX.imp fun h=>lss_asym h) hp
 have e:=Qp h2 h1;have ha':a∈X:=hp.mem_iff.1 ha;clear h1 h2 ha hp hE
 induction X with
 | nil=>cases hb
 | cons y r ih=>
  obtain⟨q1,q2⟩:=List.pairwise_cons.1 hX
  rcases List.mem_cons.1 ha' with e1 | ha2
  ·rcases List.mem_cons.1 hb with e2 | hb2
   ·rw[e1,e2]
   ·have:=q1 b hb2; rw[<- e1,e,WS] at this; cases this
  ·rcases List.mem_cons.1 hb with e2 | hb2
   ·have:=q1 a ha2; rw[<- e2,e,WS] at this; cases this
   ·exact ih q2 hb2 ha2
end Go.Proofs.YtdnacpbgodooaaaGreatDoor
namespace Go.Proofs.YtdnacpbgodooaaaGreatDoor
open Go.RowKit
structure Fi where
 s:ByteArray
 d:ByteArray
def nilF:Fi:=⟨⟨#[]⟩,⟨#[]⟩⟩
def fi (F:List Fi) (i:Nat):Fi:=F[i]?.getD nilF
def opn (A:Ar):Ct × Int:=if (Zn A 0 192).2=0 then decC (Zn A 0 192).1 else (nilC,(Zn A 0 192).2)
def hasF (F:List Fi) (s:ByteArray):Nat->Bool
 | 0=>false
 | k+1=>hasF F s k||((fi F k).s.toList==s.toList)
def filOne (F:List Fi) (k:Nat):Int:=if nameMay (fi F k).s=true then (if 200<(fi F k).d.size then 1 else if hasF F (fi F k).s k=true then 7 else 0) else 4
def filN (F:List Fi):Nat->Int
 | 0=>0
 | k+1=>if filN F k=0 then filOne F k else filN F k
def sumF (F:List Fi):Nat->Nat
 | 0=>0
 | k+1=>sumF F k+(fi F k).d.size
def filChk (F:List Fi):Int:=if 1<=F.length∧F.length<=10 then (if filN F F.length=0 then (if 600<sumF F F.length then 1 else 0) else filN F F.length) else 1
def datN (F:List Fi):Nat->List UInt8
 | 0=>[]
 | k+1=>datN F k++(fi F k).d.data.toList
def Z1a (F:List Fi) (b k:Nat):En:=⟨(fi F k).s,b,sumF F k,(fi F k).d.size⟩
def ZK (F:List Fi) (b:Nat):Nat->List En
 | 0=>[]
 | k+1=>ZK F b k++[Z1a F b k]
def takN (C:Ct) (F:List Fi):Nat->Bool
 | 0=>false
 | k+1=>takN C F k||hasE C.2 (fi F k).s
def pk (F:List Fi):List UInt8:=packed (datN F F.length)
def atC (C:Ct):Nat:=atB C.1 C.1.length
def catA (C:Ct) (F:List Fi):Ct:=(C.1++[⟨atC C,(pk F).length⟩],insAll C.2 (ZK F C.1.length F.length))
def XU (A:Ar) (C:Ct) (F:List Fi):Bool:=decide (10<C.2.length+F.length∨10<=C.1.length∨many A<atC C+secs (pk F).length)
def imgC (C:Ct):List UInt8:=encB C++List.replicate (192-(encB C).length) 0
def outA (A:Ar) (C:Ct) (F:List Fi):Ar:=(Zg (Zg A (atC C) (pk F)).1 0 (imgC (catA C F))).1
def addC (A:Ar) (C:Ct) (F:List Fi):Ar × Int:=if filChk F=0 then (if takN C F F.length=true then ([],7) else if XU A C F=true then ([],8) else (outA A C F,0)) else ([],filChk F)
def addA (A:Ar) (F:List Fi):Ar × Int:=if (opn A).2=0 then addC A (opn A).1 F else ([],(opn A).2)
def getB (x:En) (r:List UInt8 × Int):List UInt8 × Int:=if r.2=0 then (if r.1.length<x.a.toNat+x.n.toNat then ([],9) else (cut r.1 x.a.toNat (x.a.toNat+x.n.toNat),0)) else ([],r.2)
def getU (A:Ar) (b:Bk):List UInt8 × Int:=if (Zn A b.f b.n).2=0 then unp [] (Zn A b.f b.n).1 else ([],(Zn A b.f b.n).2)
def getC (A:Ar) (C:Ct) (s:ByteArray):List UInt8 × Int:=if (ZD C s).2=0 then getB (ZD C s).1 (getU A (bk C.1 (ZD C s).1.b.toNat)) else ([],(ZD C s).2)
def getA (A:Ar) (s:ByteArray):List UInt8 × Int:=if (opn A).2=0 then getC A (opn A).1 s else ([],(opn A).2)
def namesE (E:List En):List ByteArray:=E.map fun x=>x.s
theorem Qk (A:Ar) (h:(opn A).2=0):catChk (opn A).1=0∧Z2 A=true∧16<=many A:=by
 unfold opn at h ⊢
 by_cases h0:(Zn A 0 192).2=0
 ·rw[if_pos h0] at h ⊢
  have hc:stChk A 0 192=0:=by
   rw[Zn] at h0
   split at h0
   ·assumption
   ·rename_i q; exact absurd h0 q
  obtain⟨hm,_⟩:=Xa A 0 192 hc;refine⟨?_,hm,((arMay_iff A).1 hm).2.2.1⟩
  unfold decC at h ⊢
  split at h
  ·cases h
  ·rename_i q1
   split at h
   ·cases h
   ·rename_i q2
    rw[if_neg q1,if_neg q2]
    split at h
    ·rename_i q3
     rw[if_pos q3]; exact q3
    ·rename_i q3
     exact absurd h q3
 ·rw[if_neg h0] at h
  exact absurd h h0
theorem fi_lt (F:List Fi) (i:Nat) (h:i<F.length):fi F i=F[i]:=by simp[fi,h]
theorem Uh (F:List Fi) (k:Nat) (h:filN F k=0):filN F (k+1)=filOne F k:=by rw[filN,if_pos h]
theorem Z6N (F:List Fi) (k:Nat) (h:filN F k≠0) (m:Nat) (hm:k<=m):filN F m=filN F k:=by
 induction m with
 | zero=>
  obtain rfl:k=0:=by omega
  rfl
 | succ m ih=>
  by_cases e:k=m+1
  ·rw[e]
  ·rw[filN,ih (by omega),if_neg h]
theorem Z2c (F:List Fi) (k:Nat) (h:filN F k=0) (h1:filOne F k≠0) (m:Nat) (hm:k<m):filN F m=filOne F k:=by
 have e:filN F (k+1)=filOne F k:=Uh F k h;rw[Z6N F (k+1) (by rw[e]; exact h1) m hm,e]
theorem Z59 (F:List Fi) (k:Nat) (h:filN F k=0):∀ j,j<k->filOne F j=0:=by
 induction k with
 | zero=>intro j hj; omega
 | succ k ih=>
  intro j hj
  by_cases h0:filN F k=0
  ·rw[Uh F k h0] at h
   by_cases e:j=k
   ·rw[e]; exact h
   ·exact ih h0 j (by omega)
  ·rw[filN,if_neg h0] at h
   exact absurd h h0
theorem Vj (F:List Fi) (k:Nat) (h:filOne F k=0):nameMay (fi F k).s=true∧(fi F k).d.size<=200∧hasF F (fi F k).s k=false:=by
 unfold filOne at h
 split at h
 ·rename_i h1
  split at h
  ·cases h
  ·rename_i h2
   split at h
   ·cases h
   ·rename_i h3
    exact⟨h1,by omega,by simpa using h3⟩
 ·cases h
theorem Xx (F:List Fi) (h:filChk F=0):(1<=F.length∧F.length<=10)∧filN F F.length=0∧sumF F F.length<=600∧∀ k,k<F.length->nameMay (fi F k).s=true∧(fi F k).d.size<=200∧hasF F (fi F k).s k=false:=by
 unfold filChk at h
 split at h
 ·rename_i h1
  split at h
  ·rename_i h2
   split at h
   ·cases h
   ·rename_i h3
    exact⟨h1,h2,by omega,fun k hk=>Vj F k (Z59 F _ h2 k hk)⟩
  ·rename_i h2
   exact absurd h h2
 ·cases h
theorem Ut (F:List Fi) (j k:Nat) (h:j<=k):sumF F j<=sumF F k:=by
 induction k with
 | zero=>
  obtain rfl:j=0:=by omega
  exact Nat.le_refl _
 | succ k ih=>
  by_cases e:j=k+1
  ·rw[e]; exact Nat.le_refl _
  ·have:=ih (by omega); rw[sumF]; omega
theorem datN_len (F:List Fi) (k:Nat):(datN F k).length=sumF F k:=by
 induction k with
 | zero=>rfl
 | succ k ih=>rw[datN,List.length_append,ih,sumF,ba_len]
theorem entsN_len (F:List Fi) (b k:Nat):(ZK F b k).length=k:=by
 induction k with
 | zero=>rfl
 | succ k ih=>rw[ZK,List.length_append,ih]; rfl
theorem Wf (F:List Fi) (b k:Nat) (x:En) (h:x∈ZK F b k):∃ j,j<k∧x=Z1a F b j:=by
 induction k with
 | zero=>cases h
 | succ k ih=>
  rw[ZK,List.mem_append] at h
  rcases h with h | h
  ·obtain⟨j,hj,e⟩:=ih h; exact⟨j,by omega,e⟩
  ·exact⟨k,by omega,by simpa using h⟩
theorem entsN_has (F:List Fi) (b k j:Nat) (h:j<k):Z1a F b j∈ZK F b k:=by
 induction k with
 | zero=>omega
 | succ k ih=>
  rw[ZK,List.mem_append]
  by_cases e:j=k
  ·right; rw[e]; simp
  ·left; exact ih (by omega)
theorem Qx (F:List Fi) (s:ByteArray) (k:Nat):hasF F s k=true↔∃ j,j<k∧(fi F j).s=s:=by
 induction k with
 | zero=>simp[hasF]
 | succ k ih=>
  rw[hasF,Bool.or_eq_true,ih,beq_iff_eq];constructor
  ·rintro (⟨j,hj,e⟩ | e)
   ·exact⟨j,by omega,e⟩
   ·exact⟨k,by omega,toL_inj e⟩
  ·rintro⟨j,hj,e⟩
   by_cases q:j=k
   ·right; rw[<- q,e]
   ·left; exact⟨j,by omega,e⟩
theorem hasF_ents (F:List Fi) (s:ByteArray) (b k:Nat):hasE (ZK F b k) s=hasF F s k:=by
 rw[Bool.eq_iff_iff,hasE_iff,Qx];constructor
 ·rintro⟨y,hy,e⟩
  obtain⟨j,hj,rfl⟩:=Wf F b k y hy;exact⟨j,hj,e⟩
 ·rintro⟨j,hj,e⟩
  exact⟨_,entsN_has F b k j hj,e⟩
theorem hasE_app (E N:List En) (s:ByteArray):hasE (E++N) s=(hasE E s||hasE N s):=by simp[hasE]
theorem Z2a (C:Ct) (F:List Fi) (k:Nat) (h:hasF F (fi F k).s k=false):hasE (insAll C.2 (ZK F C.1.length k)) (fi F k).s=hasE C.2 (fi F k).s:=by
 rw[Z50 (ZQ _ _),hasE_app,hasF_ents,h,Bool.or_false]
theorem Z1F (C:Ct) (F:List Fi) (j k:Nat) (h:takN C F j=true) (hk:j<=k):takN C F k=true:=by
 induction k with
 | zero=>
  obtain rfl:j=0:=by omega
  exact h
 | succ k ih=>
  by_cases e:j=k+1
  ·rw[<- e]; exact h
  ·rw[takN,ih (by omega),Bool.true_or]
theorem tak_at (C:Ct) (F:List Fi) (k j:Nat) (h:takN C F k=false) (hj:j<k):hasE C.2 (fi F j).s=false:=by
 cases hh:hasE C.2 (fi F j).s with
 | false=>rfl
 | true=>
  have:takN C F (j+1)=true:=by rw[takN,hh,Bool.or_true]
  rw[Z1F C F (j+1) k this hj] at h; cases h
theorem Z87 (E:List En) (m k:Nat) (h:entN E m k=0):∀ j,j<k->enBad E j=false:=by
 induction k with
 | zero=>intro j hj; omega
 | succ k ih=>
  intro j hj
  by_cases h0:entN E m k=0
  ·by_cases e:j=k
   ·rw[e]
    have hk:=WJ E m (k+1) h k (by omega)
    rw[Vm E m k h0,hk,if_pos rfl] at h;cases hb:enBad E k with
    | false=>rfl
    | true=>rw[hb] at h; cases h
   ·exact ih h0 j (by omega)
  ·rw[entN,if_neg h0] at h
   exact absurd h h0
theorem Z66 (E:List En) (h:∀ j,j+1<E.length->lss (en E j).s (en E (j+1)).s=true):Srt E:=by
 refine List.pairwise_iff_getElem.2 fun i j hi hj hij=>?_
 have:∀ d,i+d+1<E.length->lss (en E i).s (en E (i+d+1)).s=true:=by
  intro d
  induction d with
  | zero=>intro q; exact h i q
  | succ d ih=>intro q; exact Wd (ih (by omega)) (h (i+d+1) q)
 obtain⟨d,rfl⟩:∃ d,j=i+d+1:=⟨j-i-1,by omega⟩
 rw[<- YS E i hi,<- YS E _ hj];exact this d hj
theorem Z1n (C:Ct) (h:catChk C=0):Srt C.2:=by
 obtain⟨_,_,_,h4⟩:=Xg C h;refine Z66 C.2 fun j hj=>?_
 have:=Z87 C.2 _ _ h4 (j+1) hj
 simp only[enBad,Nat.add_sub_cancel] at this
 rw[show decide (0<j+1)=true from decide_eq_true (by omega),Bool.true_and] at this
 exact (Vy _ _).1 this
theorem srt_at (E:List En) (h:Srt E) (k:Nat) (hk:k<E.length):enBad E k=false:=by
 unfold enBad;cases k with
 | zero=>rfl
 | succ k=>
  rw[show decide (0<k+1)=true from decide_eq_true (by omega),Bool.true_and,Nat.add_sub_cancel]
  refine (Vy _ _).2 ?_
  rw[YS E k (by omega),YS E (k+1) hk]
  exact List.pairwise_iff_getElem.1 h k (k+1) (by omega) hk (by omega)
theorem Z5e (E:List En) (m:Nat) (ho:∀ x∈E,enOk x m=true) (hs:Srt E):∀ k,k<=E.length->entN E m k=0
 | 0,_=>rfl
 | k+1,hk=>Vn E m k (Z5e E m ho hs k (by omega)) (ho _ (by rw[YS E k (by omega)]; exact List.getElem_mem _)) (srt_at E hs k (by omega))
theorem Qs (C:Ct) (F:List Fi) (hs:Srt C.2) (ht:takN C F F.length=false) (hF:∀ k,k<F.length->hasF F (fi F k).s k=false):∀ k,k<=F.length->Srt (insAll C.2 (ZK F C.1.length k))
 | 0,_=>hs
 | k+1,hk=>by
  rw[ZK,UO];refine Z7U _ _ (Qs C F hs ht hF k (by omega)) ?_
  show hasE _ (fi F k).s=false
  rw[Z2a C F k (hF k (by omega))]
  exact tak_at C F F.length k ht (by omega)
theorem JG (F:List Fi) (h:sumF F F.length<=600):(pk F).length<=605:=by
 have:=YA (datN F F.length)
 rw[datN_len] at this;unfold pk;omega
theorem Z5E (L:List Bk) (b:Bk) (k:Nat) (h:k<L.length):bk (L++[b]) k=bk L k:=by simp[bk,List.getElem?_append_left h]
theorem bk_end (L:List Bk) (b:Bk):bk (L++[b]) L.length=b:=by simp[bk]
theorem Z1w (L:List Bk) (b:Bk) (k:Nat) (h:k<=L.length):atB (L++[b]) k=atB L k:=by
 induction k with
 | zero=>rfl
 | succ k ih=>rw[atB_succ,atB_succ,ih (by omega),Z5E L b k (by omega)]
theorem Z8l (L:List Bk) (b:Bk) (h:blkN L L.length=0) (hb:b.f=atB L L.length) (h0:0<=b.n) (h1:b.n<=1200) (h2:atB L L.length+secs b.n.toNat<=64):blkN (L++[b]) (L++[b]).length=0:=by
 have q:∀ k,k<=L.length->blkN (L++[b]) k=0:=by
  intro k
  induction k with
  | zero=>intro _; rfl
  | succ k ih=>
   intro hk;rw[Wy _ _ (ih (by omega)),if_pos]
   have:=(Xb L k).1 (Wj L _ h k (by omega))
   rw[Xb,Z5E L b k (by omega),Z1w L b k (by omega),Z1w L b (k+1) (by omega)]
   exact this
 rw[List.length_append];show blkN (L++[b]) (L.length+1)=0
 rw[Wy _ _ (q L.length (Nat.le_refl _)),if_pos];rw[Xb,atB_succ,bk_end,Z1w L b _ (Nat.le_refl _)];exact⟨hb,⟨h0,h1⟩,h2⟩
theorem Z2q (A:Ar) (C:Ct) (F:List Fi) (hm:many A<=64) (h:catChk C=0) (hf:filChk F=0) (ht:takN C F F.length=false) (hu:XU A C F=false):catChk (catA C F)=0:=by
 obtain⟨h1,h2,h3,h4⟩:=Xg C h;obtain⟨f1,f2,f3,f4⟩:=Xx F hf;have hp:=JG F f3;simp only[XU,decide_eq_false_iff_not,not_or,Nat.not_lt,Nat.not_le] at hu
 obtain⟨u1,u2,u3⟩:=hu;have e1:(catA C F).1.length=C.1.length+1:=by simp[catA]
 have e2:(catA C F).2.length=C.2.length+F.length:=by show (insAll _ _).length=_; rw[insAll_len,entsN_len]
 unfold catChk;rw[if_neg (by omega),if_pos]
 ·rw[e2,e1]
  refine Z5e _ _ (fun x hx=>?_) (Qs C F (Z1n C h) ht (fun k hk=>(f4 k hk).2.2) F.length (Nat.le_refl _)) _ (by rw[<- e2]; exact Nat.le_refl _)
  have hx':=(ZQ C.2 (ZK F C.1.length F.length)).mem_iff.1 hx
  rcases List.mem_append.1 hx' with q | q
  ·obtain⟨j,hj,rfl⟩:=List.getElem_of_mem q
   have:=WJ C.2 _ _ h4 j hj
   rw[YS C.2 j hj] at this;obtain⟨a1,a2,a3,a4⟩:=(ZO _ _).1 this;exact (ZO _ _).2 ⟨a1,⟨a2.1,by omega⟩,a3,a4⟩
  ·obtain⟨j,hj,rfl⟩:=Wf F _ _ x q
   obtain⟨g1,g2,_⟩:=f4 j hj
   have:=Ut F j F.length (by omega)
   exact (ZO _ _).2 ⟨g1,⟨by show (0:Int)<=(C.1.length:Int); omega,by show (C.1.length:Int)<((C.1.length+1:Nat):Int); omega⟩,⟨by show (0:Int)<=(sumF F j:Int); omega,by show (sumF F j:Int)<=600; omega⟩,by show (0:Int)<=((fi F j).d.size:Int); omega,by show ((fi F j).d.size:Int)<=200; omega⟩
 ·exact Z8l C.1 _ h3 rfl (by show (0:Int)<=((pk F).length:Int); omega) (by show ((pk F).length:Int)<=1200; omega) (by show _+secs ((pk F).length:Int).toNat<=64; rw[Int.toNat_natCast]; show atC C+_<=64; omega)
theorem QC (C:Ct) (h:catChk C=0):(encB C).length<=152:=by
 obtain⟨h1,h2,_,h4⟩:=Xg C h;have a:∀ L:List Bk,(Xr L).length=2*L.length:=fun L=>by
  induction L with
  | nil=>rfl
  | cons b L ih=>
   have e:Xr (b::L)=be2 b.n++Xr L:=rfl;rw[e,List.length_append,ih]; simp[be2]; omega
 have b:∀ E:List En,(∀ x∈E,x.s.size<=8)->(XO E).length<=13*E.length:=fun E=>by
  induction E with
  | nil=>intro _; exact Nat.le_refl _
  | cons x E ih=>
   intro hE
   have:=ih (fun y hy=>hE y (List.mem_cons_of_mem _ hy))
   have h8:=hE x List.mem_cons_self;have e:XO (x::E)=encE x++XO E:=rfl;rw[e,List.length_append];have e2:(encE x).length=x.s.size+5:=by simp[encE,be2]
   rw[e2,List.length_cons]; omega
 have c:=b C.2 (fun x hx=>by
  obtain⟨j,hj,rfl⟩:=List.getElem_of_mem hx
  have:=WJ C.2 _ _ h4 j hj
  rw[YS C.2 j hj] at this;exact (Zs _ ((ZO _ _).1 this).1).2)
 have e:=a C.1;unfold encB;simp only[List.length_append,List.length_cons,List.length_nil]
 omega
theorem Qt (C:Ct) (h:catChk C=0):(imgC C).length=192:=by
 have:=QC C h
 rw[imgC,List.length_append,List.length_replicate]; omega
end Go.Proofs.YtdnacpbgodooaaaGreatDoor
namespace Go.Proofs.YtdnacpbgodooaaaGreatDoor
open Go.RowKit
theorem Z3N (D:Dv) (k:Nat) (no:Int) (s:List UInt8) (ht:dvTouch D k=0) (h0:0<=no) (h1:no<=65535) (hs:s.length<=24):dvMay (dvWrite D k no s).1=true∧(dvWrite D k no s).1.1.length=D.1.length:=by
 have ht2:=Xi (D:=D) (k:=k) (s:=str (sealed (body no s))) (l:=false) ht (XK no s hs);rw[WY ht no s h0 h1 hs];exact⟨((Zu _ _).1 ht2).1,(XM _ _ _ _).1⟩
theorem Z6w (D:Dv) (k:Nat) (ht:dvTouch D k=0):dvMay (dvLose D k).1=true∧(dvLose D k).1.1.length=D.1.length:=by
 obtain⟨h1,h2⟩:=(Zu _ _).1 ht;have ht2:=Xi (D:=D) (k:=k) (s:=sec D k) (l:=true) ht (Yv D k h1 h2);rw[Z4M ht];exact⟨((Zu _ _).1 ht2).1,(XM _ _ _ _).1⟩
theorem Z7k (A:Ar) (i j:Nat) (D:Dv) (hi:i<A.length):dev (A.set i D) j=if j=i then D else dev A j:=by
 by_cases e:j=i
 ·subst e; simp[dev,hi]
 ·rw[if_neg e]; simp[dev,List.getElem?_set_ne (fun x=>e x.symm)]
theorem U1 (A:Ar) (hm:Z2 A=true) (i:Nat) (hi:i<3) (D:Dv) (hD:dvMay D=true) (hl:D.1.length=(dev A i).1.length):Z2 (A.set i D)=true∧many (A.set i D)=many A:=by
 have hh:=(arMay_iff A).1 hm;have hd:∀ j,(dev (A.set i D) j).1.length=(dev A j).1.length:=fun j=>by
  rw[Z7k A i j D (by rw[hh.1]; exact hi)]
  split
  ·rename_i e; rw[e]; exact hl
  ·rfl
 have hmn:many (A.set i D)=many A:=hd 0;refine⟨(arMay_iff _).2 ⟨by rw[List.length_set]; exact hh.1,fun E hE=>?_,?_⟩,hmn⟩
 ·rcases List.mem_or_eq_of_mem_set hE with h | rfl
  ·exact hh.2.1 E h
  ·exact hD
 ·rw[hmn,hd 1,hd 2]; exact hh.2.2
theorem Z7i (A:Ar) (hm:Z2 A=true) (k:Nat) (hk:k<many A):dvTouch (dev A 0) k=0∧dvTouch (dev A 1) k=0∧dvTouch (dev A 2) ((k / 2:Nat):Int)=0:=by
 have hh:=(arMay_iff A).1 hm;have hd:∀ i,i<3->dvMay (dev A i)=true:=fun i hi=>hh.2.1 _ (WU A i (by rw[hh.1]; exact hi))
 refine⟨(Zu _ _).2 ⟨hd 0 (by omega),hk⟩,(Zu _ _).2 ⟨hd 1 (by omega),by rw[hh.2.2.2.2.2.1]; exact hk⟩,(Zu _ _).2 ⟨hd 2 (by omega),by rw[hh.2.2.2.2.2.2]; omega⟩⟩
theorem QG (A:Ar) (hm:Z2 A=true) (n:Nat) (hn:n<many A) (s:List UInt8) (hs:s.length<=24):Z2 (both A n s)=true∧many (both A n s)=many A:=by
 have h64:=((arMay_iff A).1 hm).2.2.2.1;have h3:=((arMay_iff A).1 hm).1;obtain⟨t0,t1,_⟩:=Z7i A hm n hn;have w0:=Z3N (dev A 0) n n s t0 (by omega) (by omega) hs
 have m0:=U1 A hm 0 (by omega) _ w0.1 w0.2
 have w1:=Z3N (dev A 1) n n s t1 (by omega) (by omega) hs
 have e1:dev (A.set 0 (dvWrite (dev A 0) n n s).1) 1=dev A 1:=by rw[Z7k _ _ _ _ (by omega),if_neg (by decide)]
 have m1:=U1 _ m0.1 1 (by omega) _ w1.1 (by rw[e1]; exact w1.2)
 exact⟨m1.1,m1.2.trans m0.2⟩
theorem Z7q (s t:List UInt8):(xors s t).length<=s.length:=by rw[TV]; omega
theorem Z4q (A:Ar) (hm:Z2 A=true) (n:Nat) (hn:n<many A) (s:List UInt8) (hs:s.length<=24):Z2 (put A n s)=true∧many (put A n s)=many A:=by
 have hh:=(arMay_iff A).1 hm;have hp:=WP n (many A) hn hh.2.2.2.2.1;obtain⟨B,hB⟩:∃ B,B=both (if (tell A (part n)).2.2=0∧(tell A (part n)).2.1=3 then both A (part n) (tell A (part n)).1 else A) n s:=⟨_,rfl⟩
 have hBm:Z2 B=true∧many B=many A:=by
  rw[hB]
  split
  ·rename_i h
   have h1:=QG A hm (part n) hp (tell A (part n)).1 (by rw[ZR A _ h.1]; exact Nat.le_refl _)
   have h2:=QG _ h1.1 n (by rw[h1.2]; exact hn) s hs
   exact⟨h2.1,h2.2.trans h1.2⟩
  ·exact QG A hm n hn s hs
 have h64:=hh.2.2.2.1;have ht:=(Z7i B hBm.1 n (by rw[hBm.2]; exact hn)).2.2
 have e:put A n s=if (tell A (part n)).2.2=0 then B.set 2 (dvWrite (dev B 2) ((n / 2:Nat):Int) ((512+n / 2:Nat):Int) (xors (pad s) (tell A (part n)).1)).1 else B.set 2 (dvLose (dev B 2) ((n / 2:Nat):Int)).1:=by rw[hB]; rfl
 rw[e]
 split
 ·have w:=Z3N (dev B 2) (n / 2) ((512+n / 2:Nat):Int) (xors (pad s) (tell A (part n)).1) ht (by omega) (by omega) (Nat.le_trans (Z7q _ _) (by rw[pad_length s hs]; exact Nat.le_refl _))
  have m:=U1 B hBm.1 2 (by omega) _ w.1 w.2
  exact⟨m.1,m.2.trans hBm.2⟩
 ·have w:=Z6w (dev B 2) (n / 2) ht
  have m:=U1 B hBm.1 2 (by omega) _ w.1 w.2
  exact⟨m.1,m.2.trans hBm.2⟩
theorem Jl (A:Ar) (hm:Z2 A=true) (x:Nat) (s:List UInt8):∀ i,x+i<=many A->Z2 (stN A x s i)=true∧many (stN A x s i)=many A
 | 0,_=>⟨hm,rfl⟩
 | i+1,hi=>by
  obtain⟨h1,h2⟩:=Jl A hm x s i (by omega)
  have hc:=UZ s i;have e:arWrite (stN A x s i) ((x+i:Nat):Int) (chunk s i)=(put (stN A x s i) (x+i) (chunk s i),0):=by
   rw[arWrite,if_pos (by rw[arTouch,if_pos h1,if_pos ⟨by omega,by rw[h2]; omega⟩]),if_neg (by omega),Int.toNat_natCast]
  have hp:=Z4q _ h1 (x+i) (by rw[h2]; omega) (chunk s i) hc
  rw[stN,e];exact⟨hp.1,hp.2.trans h2⟩
theorem Q2 (A:Ar) (x:Nat) (s:List UInt8) (h:stChk A x s.length=0):(Zg A x s).2=0∧Z2 (Zg A x s).1=true∧many (Zg A x s).1=many A:=by
 obtain⟨hm,_,_,h3⟩:=Xa A x s.length h;rw[Zg,if_pos h]
 have:=Jl A hm x s (secs s.length) (by rw[Int.toNat_natCast] at h3; omega)
 rw[Int.toNat_natCast];exact⟨rfl,this.1,this.2⟩
theorem Z5v (A:Ar) (hm:Z2 A=true) (x n:Nat) (hn:n<=1536) (hx:x+secs n<=many A):stChk A x n=0:=by
 rw[stChk,if_pos hm,if_pos ⟨by omega,by omega⟩,if_pos ⟨by omega,by rw[Int.toNat_natCast]; omega⟩]
theorem Z11 (A:Ar) (C:Ct) (F:List Fi) (hm:Z2 A=true) (h16:16<=many A) (hc:catChk C=0) (hf:filChk F=0) (ht:takN C F F.length=false) (hu:XU A C F=false):
  (Zg A (atC C) (pk F)).2=0∧catChk (catA C F)=0∧(Zg (Zg A (atC C) (pk F)).1 0 (imgC (catA C F))).2=0∧Z2 (Zg A (atC C) (pk F)).1=true∧many (Zg A (atC C) (pk F)).1=many A:=by
 have h64:=((arMay_iff A).1 hm).2.2.2.1;have hk:=Z2q A C F h64 hc hf ht hu;obtain⟨_,_,f3,_⟩:=Xx F hf;have hp:=JG F f3;have hu':=hu;simp only[XU,decide_eq_false_iff_not,not_or,Nat.not_lt,Nat.not_le] at hu'
 obtain⟨_,_,u3⟩:=hu';obtain⟨a1,a2,a3⟩:=Q2 A (atC C) (pk F) (Z5v A hm _ _ (by omega) u3)
 refine⟨a1,hk,?_,a2,a3⟩
 have hl:=Qt _ hk
 have:=Q2 (Zg A (atC C) (pk F)).1 0 (imgC (catA C F)) (Z5v _ a2 0 _ (by omega) (by rw[hl,a3]; unfold secs; omega))
 exact this.1
end Go.Proofs.YtdnacpbgodooaaaGreatDoor
namespace Go.Proofs.YtdnacpbgodooaaaGreatDoor
open Go.RowKit
def over (all:List (List UInt8)) (x:Nat) (s:List UInt8):Nat->List (List UInt8)
 | 0=>all
 | i+1=>(over all x s i).set (x+i) (pad (chunk s i))
theorem XW (all:List (List UInt8)) (x:Nat) (s:List UInt8):∀ i,(over all x s i).length=all.length
 | 0=>rfl
 | i+1=>by rw[over,List.length_set,XW all x s i]
theorem Yb {all:List (List UInt8)} (h:Alls all) (x:Nat) (s:List UInt8):∀ i,x+i<=all.length->Alls (over all x s i)
 | 0,_=>h
 | i+1,hi=>(Yb h x s i (by omega)).set (x+i) _ (by rw[XW]; omega) (pad_length _ (UZ s i))
theorem Z43 {all:List (List UInt8)} (h:Alls all) (x:Nat) (s:List UInt8):∀ i,x+i<=all.length->stN (goodA all) x s i=goodA (over all x s i)
 | 0,_=>rfl
 | i+1,hi=>by
  rw[stN,Z43 h x s i (by omega),Z3l (Yb h x s i (by omega)) (x+i) (by rw[XW]; omega) _ (UZ s i)]
  rfl
theorem Uc (all:List (List UInt8)) (x:Nat) (s:List UInt8):∀ i,x+i<=all.length->∀ j,pay (over all x s i) j=if x<=j∧j<x+i then pad (chunk s (j-x)) else pay all j
 | 0,_,j=>by rw[if_neg (by omega)]; rfl
 | i+1,hi,j=>by
  rw[over,pay_set (x+i) _ (by rw[XW]; omega),Uc all x s i (by omega) j]
  by_cases e:j=x+i
  ·rw[if_pos e,if_pos (by omega),e,show x+i-x=i by omega]
  ·rw[if_neg e]
   by_cases e2:x<=j∧j<x+i
   ·rw[if_pos e2,if_pos (by omega)]
   ·rw[if_neg e2,if_neg (by omega)]
theorem pad_app (l:List UInt8):pad l=l++List.replicate (24-l.length) 0:=rfl
theorem take_chunk (s:List UInt8) (i:Nat):s.take (24*i)++chunk s i=s.take (24*(i+1)):=by
 rw[chunk,Nat.mul_add,Nat.mul_one,List.take_add]
theorem Z4n {all:List (List UInt8)} (h:Alls all) (x:Nat) (s:List UInt8) (hx:x+secs s.length<=all.length):∀ i,i<=secs s.length->rdN (goodA (over all x s (secs s.length))) x i=(s.take (24*i)++List.replicate (24*i-s.length) 0,0)
 | 0,_=>by simp[rdN]
 | i+1,hi=>by
  have ih:=Z4n h x s hx i (by omega)
  have hA:=Yb h x s _ hx;have hr:=UU hA (x+i) (by rw[XW]; omega)
  rw[Uc all x s _ hx,if_pos (by omega),show x+i-x=i by omega] at hr
  have hl:=Z0B s.length i (by omega)
  rw[Z0U _ _ _ (by rw[ih]) (by rw[hr]),ih,hr]
  have e0:24*i-s.length=0:=by omega
  have ec:(chunk s i).length=min 24 (s.length-24*i):=by simp[chunk]
  rw[e0,List.replicate_zero,List.append_nil,pad_app,<- List.append_assoc,take_chunk,ec,show 24-min 24 (s.length-24*i)=24*(i+1)-s.length by omega]
theorem Uv {all:List (List UInt8)} (h:Alls all) (x:Nat) (s:List UInt8) (hs:s.length<=1536) (hx:x+secs s.length<=all.length):
  Zg (goodA all) x s=(goodA (over all x s (secs s.length)),0)∧Zn (goodA (over all x s (secs s.length))) x s.length=(s,0):=by
 have hA:=Yb h x s _ hx;have hc:∀ l:List (List UInt8),Alls l->l.length=all.length->stChk (goodA l) x s.length=0:=fun l hl e=>by
  rw[stChk,if_pos (YJ hl),if_pos ⟨by omega,by omega⟩,if_pos ⟨by omega,by rw[good_many,e,show ((s.length:Int)).toNat=s.length by omega]; omega⟩]
 refine⟨?_,?_⟩
 ·rw[Zg,if_pos (hc all h rfl),show ((x:Int)).toNat=x by omega,Z43 h x s _ hx]
 ·rw[Zn,if_pos (hc _ hA (XW all x s _)),show ((x:Int)).toNat=x by omega,show ((s.length:Int)).toNat=s.length by omega,Z4n h x s hx _ (Nat.le_refl _)]
  have:=Q3 s.length
  simp[List.take_of_length_le this]
end Go.Proofs.YtdnacpbgodooaaaGreatDoor
namespace Go.Proofs.YtdnacpbgodooaaaGreatDoor
open Go.RowKit
theorem Z4m (A B:Ar) (x:Nat):∀ i,(∀ j:Nat,x<=j->j<x+i->(arRead A (j:Int)).1=(arRead B (j:Int)).1∧(arRead A (j:Int)).2.2=(arRead B (j:Int)).2.2)->rdN A x i=rdN B x i
 | 0,_=>rfl
 | i+1,h=>by
  obtain⟨h1,h2⟩:=h (x+i) (by omega) (by omega)
  rw[rdN,rdN,Z4m A B x i (fun j h3 h4=>h j h3 (by omega)),h1,h2]
theorem Z7y (A B:Ar) (hm:Z2 A=Z2 B) (hn:many A=many B) (x n:Int) (h:stChk A x n=0->∀ j:Nat,x.toNat<=j->j<x.toNat+secs n.toNat->(arRead A (j:Int)).1=(arRead B (j:Int)).1∧(arRead A (j:Int)).2.2=(arRead B (j:Int)).2.2):Zn A x n=Zn B x n:=by
 have e:stChk A x n=stChk B x n:=by unfold stChk; rw[hm,hn]
 unfold Zn;rw[<- e]
 by_cases h0:stChk A x n=0
 ·rw[if_pos h0,if_pos h0,Z4m A B _ _ (h h0)]
 ·rw[if_neg h0,if_neg h0]
theorem JZ {a b:List (List UInt8)} (ha:Alls a) (hb:Alls b) (he:a.length=b.length) (x n:Int) (h:stChk (goodA a) x n=0->∀ j:Nat,x.toNat<=j->j<x.toNat+secs n.toNat->pay a j=pay b j):Zn (goodA a) x n=Zn (goodA b) x n:=by
 refine Z7y _ _ (by rw[YJ ha,YJ hb]) (by rw[good_many,good_many,he]) x n fun h0 j h1 h2=>?_
 obtain⟨_,_,h3,h4⟩:=Xa _ _ _ h0;rw[good_many] at h4;have hj:j<a.length:=by omega
 rw[UU ha j hj,UU hb j (by omega),h h0 j h1 h2]
 exact⟨rfl,rfl⟩
def dat (D:List (List UInt8)) (i:Nat):List UInt8:=D[i]?.getD []
theorem Z1j (D:List (List UInt8)) (l:List UInt8) (i:Nat) (h:i<D.length):dat (D++[l]) i=dat D i:=by simp[dat,List.getElem?_append_left h]
theorem dat_end (D:List (List UInt8)) (l:List UInt8):dat (D++[l]) D.length=l:=by simp[dat]
def LiesE (D:List (List UInt8)) (f:Fi) (x:En):Prop:=x.s=f.s∧∃ B P N:Nat,x.b=B∧x.a=P∧x.n=N∧B<D.length∧P+N<=(dat D B).length∧cut (dat D B) P (P+N)=f.d.data.toList
structure Holds (all:List (List UInt8)) (C:Ct) (D:List (List UInt8)) (G:List Fi):Prop where
 alls:Alls all
 op:Zn (goodA all) 0 192=(imgC C,0)
 chk:catChk C=0
 len:D.length=C.1.length
 blk:∀ i,i<C.1.length->Zn (goodA all) (bk C.1 i).f (bk C.1 i).n=(packed (dat D i),0)∧(dat D i).length<=600
 ent:∀ f∈G,∃ x∈C.2,LiesE D f x
 nms:∀ x∈C.2,∃ f∈G,f.s=x.s
 cnt:C.2.length=G.length
section
variable {all:List (List UInt8)} {C:Ct} {D:List (List UInt8)} {G:List Fi}
theorem Z8h (C:Ct) (h:catChk C=0):decC (imgC C)=(C,0):=Z73 C h _
theorem Holds.opn (h:Holds all C D G):opn (goodA all)=(C,0):=by
 rw[Go.Proofs.YtdnacpbgodooaaaGreatDoor.opn,h.op,if_pos rfl];exact Z8h C h.chk
theorem Holds.has (h:Holds all C D G) (s:ByteArray):hasE C.2 s=true↔∃ f∈G,f.s=s:=by
 rw[hasE_iff];constructor
 ·rintro⟨x,hx,e⟩
  obtain⟨f,hf,e2⟩:=h.nms x hx;exact⟨f,hf,e2.trans e⟩
 ·rintro⟨f,hf,e⟩
  obtain⟨x,hx,q⟩:=h.ent f hf;exact⟨x,hx,q.1.trans e⟩
theorem Z01 (E:List En) (s:ByteArray) (h:hasE E s=false):∀ k,k<=E.length->XC E s k=none
 | 0,_=>rfl
 | k+1,hk=>by
  refine VJ E s k (Z01 E s h k (by omega)) ?_
  cases he:((en E k).s.toList==s.toList) with
  | false=>rfl
  | true=>
   have:hasE E s=true:=(hasE_iff _ _).2 ⟨en E k,by rw[YS E k (by omega)]; exact List.getElem_mem _,toL_inj (by simpa using he)⟩
   rw[h] at this; cases this
theorem Holds.none (h:Holds all C D G) (s:ByteArray) (hs:∀ f∈G,f.s≠s):getA (goodA all) s=([],6):=by
 have hh:hasE C.2 s=false:=by
  cases q:hasE C.2 s with
  | false=>rfl
  | true=>obtain⟨f,hf,e⟩:=(h.has s).1 q; exact absurd e (hs f hf)
 have hfi:ZD C s=(nilE,6):=by rw[ZD,if_pos h.chk,Z01 C.2 s hh _ (Nat.le_refl _)]; rfl
 rw[getA,h.opn,if_pos rfl,getC,hfi,if_neg (by decide)]
theorem Z5o (F:List Fi) (j:Nat):∀ k,j<k->cut (datN F k) (sumF F j) (sumF F j+(fi F j).d.size)=(fi F j).d.data.toList
 | 0,h=>absurd h (Nat.not_lt_zero _)
 | k+1,h=>by
  rw[datN]
  by_cases e:j=k
  ·subst e
   have hl:=datN_len F j;rw[cut,<- hl,List.take_append,List.take_of_length_le (Nat.le_add_right _ _),List.drop_append,List.drop_of_length_le (Nat.le_refl _)];simp only[List.nil_append,Nat.sub_self,List.drop_zero,Nat.add_sub_cancel_left]
   exact List.take_of_length_le (by rw[ba_len]; exact Nat.le_refl _)
  ·rw[Z8j _ _ _ _ (by rw[datN_len]; have:sumF F (j+1)<=sumF F k:=Ut F _ _ (by omega); exact this)]
   exact Z5o F j k (by omega)
theorem Z2x (L:List Bk) (i j:Nat) (h:i<=j):atB L i<=atB L j:=by
 induction j with
 | zero=>
  obtain rfl:i=0:=by omega
  exact Nat.le_refl _
 | succ j ih=>
  by_cases e:i=j+1
  ·rw[e]; exact Nat.le_refl _
  ·rw[atB_succ]; have:=ih (by omega); omega
theorem Holds.add (h:Holds all C D G) (F:List Fi) (hf:filChk F=0) (ht:takN C F F.length=false) (hu:XU (goodA all) C F=false):
  ∃ all',addA (goodA all) F=(goodA all',0)∧all'.length=all.length∧Holds all' (catA C F) (D++[datN F F.length]) (G++F):=by
 have hA:=h.alls;have hm:=YJ hA;have hmn:many (goodA all)=all.length:=good_many;have h64:=hA.hi;have hk:=Z2q (goodA all) C F (by rw[hmn]; exact h64) h.chk hf ht hu
 obtain⟨_,_,f3,f4⟩:=Xx F hf;have hp:=JG F f3;have hil:=Qt _ hk;have hu':=hu;simp only[XU,decide_eq_false_iff_not,not_or,Nat.not_lt,Nat.not_le] at hu'
 obtain⟨_,u2,u3⟩:=hu';rw[hmn] at u3;obtain⟨_,_,c3,_⟩:=Xg C h.chk;have hat:=Z2t C.1 _ c3;obtain⟨s1,r1⟩:=Uv hA (atC C) (pk F) (by omega) u3
 have hA1:=Yb hA (atC C) (pk F) _ u3;have l1:=XW all (atC C) (pk F) (secs (pk F).length);have hp1:=Uc all (atC C) (pk F) (secs (pk F).length) u3;generalize over all (atC C) (pk F) (secs (pk F).length)=a1 at s1 r1 hA1 l1 hp1;have h8:0+secs (imgC (catA C F)).length<=a1.length:=by rw[hil,l1]; have:=hA.lo; unfold secs; omega
 obtain⟨s2,r2⟩:=Uv hA1 0 (imgC (catA C F)) (by omega) h8
 have hA2:=Yb hA1 0 (imgC (catA C F)) _ h8;have l2:=XW a1 0 (imgC (catA C F)) (secs (imgC (catA C F)).length);have hp2:=Uc a1 0 (imgC (catA C F)) (secs (imgC (catA C F)).length) h8;generalize over a1 0 (imgC (catA C F)) (secs (imgC (catA C F)).length)=a2 at s2 r2 hA2 l2 hp2;have q8:secs (imgC (catA C F)).length=8:=by rw[hil]; rfl
 rw[q8] at hp2;rw[hil] at r2;have keep:∀ j,8<=j->pay a2 j=pay a1 j:=fun j hj=>by rw[hp2,if_neg (by omega)]
 refine⟨a2,?_,by rw[l2,l1],hA2,?_,hk,by simp[catA,h.len],fun i hi=>?_,fun f hfm=>?_,fun x hx=>?_,?_⟩
 ·rw[addA,h.opn,if_pos rfl,addC,if_pos hf,if_neg (by rw[ht]; decide),if_neg (by rw[hu]; decide),outA,s1]
  dsimp only;rw[show ((0:Nat):Int)=0 from rfl] at s2;rw[s2]
 ·exact r2
 ·have e1:(catA C F).1.length=C.1.length+1:=by simp[catA]
  rw[e1] at hi
  by_cases e:i=C.1.length
  ·subst e
   have eb:bk (catA C F).1 C.1.length=⟨atC C,(pk F).length⟩:=bk_end _ _;rw[eb,<- h.len,dat_end];refine⟨?_,by rw[datN_len]; exact f3⟩
   show Zn (goodA a2) (atC C:Int) ((pk F).length:Int)=_
   rw[JZ hA2 hA1 (by rw[l2]) (atC C:Int) ((pk F).length:Int) (fun _ j h1 _=>keep j (by rw[Int.toNat_natCast] at h1; have:8<=atC C:=hat.1; omega)),r1]
   rfl
  ·have hi':i<C.1.length:=by omega
   have eb:bk (catA C F).1 i=bk C.1 i:=Z5E _ _ _ hi';rw[eb,Z1j D _ i (by rw[h.len]; exact hi')]
   obtain⟨b1,b2⟩:=h.blk i hi';refine⟨?_,b2⟩
   rw[<- b1];obtain⟨z1,⟨z2,z3⟩,z4⟩:=(Xb C.1 i).1 (Wj C.1 _ c3 i hi');have z5:=Wj C.1 _ c3;have z6:8<=atB C.1 i:=Z2x C.1 0 i (Nat.zero_le _);have z7:atB C.1 i+secs (bk C.1 i).n.toNat<=atC C:=by have:=Z2x C.1 (i+1) C.1.length (by omega); rw[atB_succ] at this; exact this
   refine JZ hA2 hA (by rw[l2,l1]) _ _ (fun _ j h1 h2=>?_)
   rw[z1,Int.toNat_natCast] at h1 h2;rw[keep j (by omega),hp1,if_neg (by omega)]
 ·rcases List.mem_append.1 hfm with q | q
  ·obtain⟨x,hx,e,B,P,N,e1,e2,e3,hB,hl,hc⟩:=h.ent f q
   refine⟨x,(ZQ _ _).mem_iff.2 (List.mem_append_left _ hx),e,B,P,N,e1,e2,e3,by rw[List.length_append]; omega,?_,?_⟩
   ·rw[Z1j D _ B hB]; exact hl
   ·rw[Z1j D _ B hB]; exact hc
  ·obtain⟨j,hj,rfl⟩:=List.getElem_of_mem q
   rw[<- fi_lt F j hj];refine⟨Z1a F C.1.length j,(ZQ _ _).mem_iff.2 (List.mem_append_right _ (entsN_has F _ _ j hj)),rfl,C.1.length,sumF F j,(fi F j).d.size,rfl,rfl,rfl,by rw[List.length_append,h.len]; simp,?_,?_⟩
   ·rw[<- h.len,dat_end,datN_len]; exact Ut F (j+1) F.length hj
   ·rw[<- h.len,dat_end]; exact Z5o F j F.length hj
 ·have hx':=(ZQ C.2 (ZK F C.1.length F.length)).mem_iff.1 hx
  rcases List.mem_append.1 hx' with q | q
  ·obtain⟨f,hf',e⟩:=h.nms x q
   exact⟨f,List.mem_append_left _ hf',e⟩
  ·obtain⟨j,hj,rfl⟩:=Wf F _ _ x q
   exact⟨fi F j,List.mem_append_right _ (by rw[fi_lt F j hj]; exact List.getElem_mem _),rfl⟩
 ·show (insAll _ _).length=_
  rw[insAll_len,entsN_len,List.length_append,h.cnt]
end
end Go.Proofs.YtdnacpbgodooaaaGreatDoor
namespace Go.Proofs.YtdnacpbgodooaaaGreatDoor
open Go.RowKit
section
variable {all:List (List UInt8)} {C:Ct} {D:List (List UInt8)} {G:List Fi}
theorem Holds.full (h:Holds all C D G) (F:List Fi) (hf:filChk F=0) (ht:takN C F F.length=false) (hu:XU (goodA all) C F=true):addA (goodA all) F=([],8):=by
 rw[addA,h.opn,if_pos rfl,addC,if_pos hf,if_neg (by rw[ht]; decide),if_pos hu]
theorem Holds.names (h:Holds all C D G):(namesE C.2).length=G.length∧(∀ f∈G,f.s∈namesE C.2)∧(namesE C.2).Pairwise fun s t=>lss s t=true:=by
 refine⟨by rw[namesE,List.length_map,h.cnt],fun f hf=>?_,?_⟩
 ·obtain⟨x,hx,e⟩:=h.ent f hf
  exact List.mem_map.2 ⟨x,hx,e.1⟩
 ·rw[namesE,List.pairwise_map]
  exact Z1n C h.chk
end
end Go.Proofs.YtdnacpbgodooaaaGreatDoor
