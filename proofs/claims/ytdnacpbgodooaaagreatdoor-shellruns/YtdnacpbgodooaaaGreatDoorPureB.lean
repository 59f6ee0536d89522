import Derived.Test.YtdnacpbgodooaaaGreatDoorLow
namespace Go.Proofs.YtdnacpbgodooaaaGreatDoor
def secs (n:Nat):Nat:=(n+23) / 24
theorem Q3 (n:Nat):n<=24*secs n:=by unfold secs; omega
theorem Z0B (n i:Nat) (h:i<secs n):24*i<n:=by unfold secs at h; omega
theorem Z47 (n i:Nat) (h:n<=24*i):secs n<=i:=by unfold secs; omega
theorem WM (n:Nat) (h:n<=1536):secs n<=64:=by unfold secs; omega
end Go.Proofs.YtdnacpbgodooaaaGreatDoor
namespace Go.Proofs.YtdnacpbgodooaaaGreatDoor
open Go.RowKit
structure Bk where
 f:Int
 n:Int
structure En where
 s:ByteArray
 b:Int
 a:Int
 n:Int
def nilB:Bk:=⟨0,0⟩
def nilE:En:=⟨⟨#[]⟩,0,0,0⟩
def bk (L:List Bk) (i:Nat):Bk:=L[i]?.getD nilB
def en (E:List En) (i:Nat):En:=E[i]?.getD nilE
abbrev Ct:=List Bk × List En
def nilC:Ct:=([],[])
def okB (c:UInt8):Bool:=decide (97<=(c.toNat:Int)∧(c.toNat:Int)<=122)||decide (48<=(c.toNat:Int)∧(c.toNat:Int)<=57)
def nameMay (s:ByteArray):Bool:=decide (1<=s.size∧s.size<=8)&&s.data.toList.all okB
def ZE (s t:ByteArray):Bool:=Op.bytesLess s.toList t.toList||s.toList==t.toList
def atB (L:List Bk):Nat->Nat
 | 0=>8
 | k+1=>atB L k+secs (bk L k).n.toNat
def bkOk (L:List Bk) (k:Nat):Bool:=decide ((bk L k).f=atB L k∧(0<=(bk L k).n∧(bk L k).n<=1200)∧atB L (k+1)<=64)
def blkN (L:List Bk):Nat->Int
 | 0=>0
 | k+1=>if blkN L k=0 then (if bkOk L k=true then 0 else 4) else blkN L k
def enOk (x:En) (m:Nat):Bool:=nameMay x.s&&decide ((0<=x.b∧x.b<m)∧(0<=x.a∧x.a<=600)∧0<=x.n∧x.n<=200)
def enBad (E:List En) (k:Nat):Bool:=decide (0<k)&&ZE (en E k).s (en E (k-1)).s
def entN (E:List En) (m:Nat):Nat->Int
 | 0=>0
 | k+1=>if entN E m k=0 then (if enOk (en E k) m=true then (if enBad E k=true then 12 else 0) else 4) else entN E m k
def catChk (C:Ct):Int:=if 10<C.1.length∨10<C.2.length then 1 else if blkN C.1 C.1.length=0 then entN C.2 C.1.length C.2.length else blkN C.1 C.1.length
def Y4 (C:Ct):Int × Int:=if catChk C=0 then ((atB C.1 C.1.length:Int),0) else (0,catChk C)
def XC (E:List En) (s:ByteArray):Nat->Option Nat
 | 0=>none
 | k+1=>match XC E s k with
  | some i=>some i
  | none=>if ((en E k).s.toList==s.toList)=true then some k else none
def fndO (E:List En):Option Nat->En × Int
 | some i=>(en E i,0)
 | none=>(nilE,6)
def ZD (C:Ct) (s:ByteArray):En × Int:=if catChk C=0 then fndO C.2 (XC C.2 s C.2.length) else (nilE,catChk C)
def encE (x:En):List UInt8:=byt x.s.size::(x.s.data.toList++(byt x.b::(be2 x.a++[byt x.n])))
def Xr (L:List Bk):List UInt8:=L.flatMap fun b=>be2 b.n
def XO (E:List En):List UInt8:=E.flatMap encE
def encB (C:Ct):List UInt8:=[byt C.1.length]++Xr C.1++[byt C.2.length]++XO C.2
def WK (C:Ct):List UInt8 × Int:=if catChk C=0 then (encB C,0) else ([],catChk C)
theorem bk_lt (L:List Bk) (i:Nat) (h:i<L.length):bk L i=L[i]:=by simp[bk,h]
theorem YS (E:List En) (i:Nat) (h:i<E.length):en E i=E[i]:=by simp[en,h]
theorem QK (L:List Bk) (i:Nat) (h:i<L.length):L.take (i+1)=L.take i++[bk L i]:=by rw[bk_lt L i h,List.take_succ_eq_append_getElem h]
theorem en_take (E:List En) (i:Nat) (h:i<E.length):E.take (i+1)=E.take i++[en E i]:=by rw[YS E i h,List.take_succ_eq_append_getElem h]
theorem Wy (L:List Bk) (k:Nat) (h:blkN L k=0):blkN L (k+1)=if bkOk L k=true then 0 else 4:=by rw[blkN,if_pos h]
theorem Z75 (L:List Bk) (k:Nat) (h:blkN L k≠0) (m:Nat) (hm:k<=m):blkN L m=blkN L k:=by
 induction m with
 | zero=>
  obtain rfl:k=0:=by omega
  rfl
 | succ m ih=>
  by_cases e:k=m+1
  ·rw[e]
  ·have:=ih (by omega)
   rw[blkN,this,if_neg h]
theorem Z2s (L:List Bk) (k:Nat) (h:blkN L k=0) (hb:bkOk L k=false) (m:Nat) (hm:k<m):blkN L m=4:=by
 have e:blkN L (k+1)=4:=by rw[Wy L k h,hb]; rfl
 rw[Z75 L (k+1) (by rw[e]; decide) m hm,e]
theorem Wj (L:List Bk) (k:Nat) (h:blkN L k=0):∀ j,j<k->bkOk L j=true:=by
 induction k with
 | zero=>intro j hj; omega
 | succ k ih=>
  intro j hj
  by_cases h0:blkN L k=0
  ·rw[Wy L k h0] at h
   have hk:bkOk L k=true:=by
    cases hb:bkOk L k with
    | true=>rfl
    | false=>rw[hb] at h; simp at h
   by_cases e:j=k
   ·rw[e]; exact hk
   ·exact ih h0 j (by omega)
  ·rw[blkN,if_neg h0] at h
   exact absurd h h0
theorem Xb (L:List Bk) (k:Nat):bkOk L k=true↔((bk L k).f=atB L k∧(0<=(bk L k).n∧(bk L k).n<=1200)∧atB L (k+1)<=64):=by simp[bkOk]
theorem atB_succ (L:List Bk) (k:Nat):atB L (k+1)=atB L k+secs (bk L k).n.toNat:=rfl
theorem Z2t (L:List Bk) (k:Nat) (h:blkN L k=0):8<=atB L k∧atB L k<=64:=by
 induction k with
 | zero=>simp[atB]
 | succ k ih=>
  have h1:=Wj L (k+1) h k (by omega)
  have h2:=((Xb L k).1 h1).2.2;have h0:blkN L k=0:=by
   by_cases h0:blkN L k=0
   ·exact h0
   ·rw[blkN,if_neg h0] at h; exact absurd h h0
  have:=ih h0
  rw[atB_succ] at h2 ⊢;omega
theorem Z2r (L:List Bk) (k:Nat) (h:blkN L (k+1)=0):(bk L k).f=atB L k∧(0<=(bk L k).n∧(bk L k).n<=1200)∧atB L (k+1)<=64:=(Xb L k).1 (Wj L (k+1) h k (by omega))
theorem Vm (E:List En) (m k:Nat) (h:entN E m k=0):entN E m (k+1)=if enOk (en E k) m=true then (if enBad E k=true then 12 else 0) else 4:=by rw[entN,if_pos h]
theorem Z2e (E:List En) (m k:Nat) (h:entN E m k≠0) (l:Nat) (hl:k<=l):entN E m l=entN E m k:=by
 induction l with
 | zero=>
  obtain rfl:k=0:=by omega
  rfl
 | succ l ih=>
  by_cases e:k=l+1
  ·rw[e]
  ·have:=ih (by omega)
   rw[entN,this,if_neg h]
theorem Z2f (E:List En) (m k:Nat) (h:entN E m k=0) (hb:enOk (en E k) m=false) (l:Nat) (hl:k<l):entN E m l=4:=by
 have e:entN E m (k+1)=4:=by rw[Vm E m k h,hb]; rfl
 rw[Z2e E m (k+1) (by rw[e]; decide) l hl,e]
theorem Z05 (E:List En) (m k:Nat) (h:entN E m k=0) (ho:enOk (en E k) m=true) (hb:enBad E k=true) (l:Nat) (hl:k<l):entN E m l=12:=by
 have e:entN E m (k+1)=12:=by rw[Vm E m k h,ho,hb]; rfl
 rw[Z2e E m (k+1) (by rw[e]; decide) l hl,e]
theorem Vn (E:List En) (m k:Nat) (h:entN E m k=0) (ho:enOk (en E k) m=true) (hb:enBad E k=false):entN E m (k+1)=0:=by rw[Vm E m k h,ho,hb]; rfl
theorem WJ (E:List En) (m k:Nat) (h:entN E m k=0):∀ j,j<k->enOk (en E j) m=true:=by
 induction k with
 | zero=>intro j hj; omega
 | succ k ih=>
  intro j hj
  by_cases h0:entN E m k=0
  ·rw[Vm E m k h0] at h
   have hk:enOk (en E k) m=true:=by
    cases hb:enOk (en E k) m with
    | true=>rfl
    | false=>rw[hb] at h; simp at h
   by_cases e:j=k
   ·rw[e]; exact hk
   ·exact ih h0 j (by omega)
  ·rw[entN,if_neg h0] at h
   exact absurd h h0
theorem ZO (x:En) (m:Nat):enOk x m=true↔(nameMay x.s=true∧(0<=x.b∧x.b<m)∧(0<=x.a∧x.a<=600)∧0<=x.n∧x.n<=200):=by simp[enOk]
theorem Zs (s:ByteArray) (h:nameMay s=true):1<=s.size∧s.size<=8:=by
 simp only[nameMay,Bool.and_eq_true,decide_eq_true_eq] at h
 exact h.1
theorem Xg (C:Ct) (h:catChk C=0):C.1.length<=10∧C.2.length<=10∧blkN C.1 C.1.length=0∧entN C.2 C.1.length C.2.length=0:=by
 unfold catChk at h
 split at h
 ·cases h
 ·split at h
  ·rename_i h1 h2
   exact⟨by omega,by omega,h2,h⟩
  ·rename_i h1 h2
   exact absurd h h2
theorem findN_some (E:List En) (s:ByteArray) (k i:Nat) (h:XC E s k=some i):i<k:=by
 induction k with
 | zero=>simp[XC] at h
 | succ k ih=>
  rw[XC] at h;cases hf:XC E s k with
  | some j=>rw[hf] at h; simp at h; have:=ih (by rw[hf,h]); omega
  | none=>
   rw[hf] at h;simp only at h
   split at h
   ·cases h; omega
   ·cases h
theorem Z02 (E:List En) (s:ByteArray) (k:Nat) (h:XC E s k=none) (he:((en E k).s.toList==s.toList)=true) (m:Nat) (hm:k<m):XC E s m=some k:=by
 induction m with
 | zero=>omega
 | succ m ih=>
  rw[XC]
  by_cases e:k=m
  ·subst e
   rw[h,he]; rfl
  ·rw[ih (by omega)]
theorem VJ (E:List En) (s:ByteArray) (k:Nat) (h:XC E s k=none) (he:((en E k).s.toList==s.toList)=false):XC E s (k+1)=none:=by
 rw[XC,h,he]; rfl
end Go.Proofs.YtdnacpbgodooaaaGreatDoor
namespace Go.Proofs.YtdnacpbgodooaaaGreatDoor
open Go.RowKit
abbrev Rd:=List UInt8 × Bool
def tk (n:Nat) (r:Rd):List UInt8 × Rd:=if n<=r.1.length then (r.1.take n,(r.1.drop n,r.2)) else ([],([],true))
def XT (l:List UInt8):Int:=l.foldl (fun n c=>n*256+c.toNat) 0
def rnum (n:Nat) (r:Rd):Int × Rd:=(XT (tk n r).1,(tk n r).2)
def behB (L:List Bk):Int:=match L.getLast? with
 | none=>8
 | some b=>b.f+secs b.n.toNat
def stB (L:List Bk) (r:Rd):List Bk × Rd:=(L++[⟨behB L,(rnum 2 r).1⟩],(rnum 2 r).2)
def rblk:Nat->Rd->List Bk × Rd
 | 0,r=>([],r)
 | k+1,r=>stB (rblk k r).1 (rblk k r).2
def e1 (r:Rd):List UInt8 × Rd:=tk (rnum 1 r).1.toNat (rnum 1 r).2
def e2 (r:Rd):Int × Rd:=rnum 1 (e1 r).2
def e3 (r:Rd):Int × Rd:=rnum 2 (e2 r).2
def e4 (r:Rd):Int × Rd:=rnum 1 (e3 r).2
def rent1 (r:Rd):En × Rd:=(⟨str (e1 r).1,(e2 r).1,(e3 r).1,(e4 r).1⟩,(e4 r).2)
def rent:Nat->Rd->List En × Rd
 | 0,r=>([],r)
 | k+1,r=>((rent k r).1++[(rent1 (rent k r).2).1],(rent1 (rent k r).2).2)
def c1 (r:Rd):List Bk × Rd:=rblk (rnum 1 r).1.toNat (rnum 1 r).2
def c2 (r:Rd):Int × Rd:=rnum 1 (c1 r).2
def c3 (r:Rd):List En × Rd:=rent (c2 r).1.toNat (c2 r).2
def rcat (s:List UInt8):Ct × Rd:=(((c1 (s,false)).1,(c3 (s,false)).1),(c3 (s,false)).2)
def zeros (l:List UInt8):Bool:=l.all (·==0)
def decC (s:List UInt8):Ct × Int:=if (rcat s).2.2=true then (nilC,5) else if zeros (rcat s).2.1=false then (nilC,4) else if catChk (rcat s).1=0 then ((rcat s).1,0) else (nilC,catChk (rcat s).1)
theorem Y9 (k:Nat) (r:Rd):rent (k+1) r=((rent k r).1++[(rent1 (rent k r).2).1],(rent1 (rent k r).2).2):=rfl
theorem JF (k:Nat) (r:Rd):rblk (k+1) r=stB (rblk k r).1 (rblk k r).2:=rfl
theorem Z6n (l:List UInt8) (c:UInt8):XT (l++[c])=XT l*256+c.toNat:=by simp[XT]
theorem num_nil:XT []=0:=rfl
theorem Ql (c:UInt8):XT [c]=c.toNat:=by simp[XT]
theorem num_two (c d:UInt8):XT [c,d]=c.toNat*256+d.toNat:=by simp[XT]
theorem Jf (n:Nat) (r:Rd):(tk n r).1.length<=n:=by unfold tk; split <;> simp; omega
theorem Je (n:Nat) (r:Rd) (h:n<=r.1.length):tk n r=(r.1.take n,(r.1.drop n,r.2)):=by rw[tk,if_pos h]
theorem Z2K (n:Nat) (r:Rd) (h:r.1.length<n):tk n r=([],([],true)):=by rw[tk,if_neg (by omega)]
theorem Z4D (l:List UInt8) (h:l.length<=1):0<=XT l∧XT l<256:=by
 match l,h with
 | [],_=>simp[XT]
 | [c],_=>rw[Ql]; have:=c.toNat_lt; omega
theorem Z7O (l:List UInt8) (h:l.length<=2):0<=XT l∧XT l<65536:=by
 match l,h with
 | [],_=>simp[XT]
 | [c],_=>rw[Ql]; have:=c.toNat_lt; omega
 | [c,d],_=>rw[num_two]; have:=c.toNat_lt; have:=d.toNat_lt; omega
theorem XD (r:Rd):0<=(rnum 1 r).1∧(rnum 1 r).1<256:=Z4D _ (Jf 1 r)
theorem Z1H (r:Rd):0<=(rnum 2 r).1∧(rnum 2 r).1<65536:=Z7O _ (Jf 2 r)
theorem TY (n:Nat) (r:Rd) (h:r.2=true):(tk n r).2.2=true:=by unfold tk; split <;> simp[h]
theorem ZF (n:Nat) (r:Rd) (h:r.2=true):(rnum n r).2.2=true:=TY n r h
theorem Z6T (r:Rd) (h:r.2=true):(e1 r).2.2=true:=TY _ _ (ZF 1 r h)
theorem Z2i (r:Rd) (h:(e1 r).2.2=true):(e2 r).2.2=true:=ZF _ _ h
theorem QD (r:Rd) (h:(e2 r).2.2=true):(e3 r).2.2=true:=ZF _ _ h
theorem Ui (r:Rd) (h:(e3 r).2.2=true):(e4 r).2.2=true:=ZF _ _ h
theorem UF (r:Rd) (h:r.2=true):(rent1 r).2.2=true:=by
 have g:=Ui r (QD r (Z2i r (Z6T r h)));unfold rent1;exact g
theorem VE (k j:Nat) (r:Rd) (h:(rblk k r).2.2=true) (hj:k<=j):(rblk j r).2.2=true:=by
 induction j with
 | zero=>
  obtain rfl:k=0:=by omega
  exact h
 | succ j ih=>
  by_cases e:k=j+1
  ·rw[<- e]; exact h
  ·exact ZF 2 _ (ih (by omega))
theorem Ya (k j:Nat) (r:Rd) (h:(rent k r).2.2=true) (hj:k<=j):(rent j r).2.2=true:=by
 induction j with
 | zero=>
  obtain rfl:k=0:=by omega
  exact h
 | succ j ih=>
  by_cases e:k=j+1
  ·rw[<- e]; exact h
  ·have q:=ih (by omega)
   rw[Y9];dsimp only;generalize (rent j r).2=x at q ⊢;exact UF x q
theorem Z5z (r:Rd) (h:(c1 r).2.2=true):(c3 r).2.2=true:=Ya 0 _ _ (ZF 1 _ h) (Nat.zero_le _)
theorem Z5y (r:Rd) (h:(c2 r).2.2=true):(c3 r).2.2=true:=Ya 0 _ _ h (Nat.zero_le _)
theorem UX (s:List UInt8) (h:(rcat s).2.2=true):decC s=(nilC,5):=by rw[decC,if_pos h]
theorem Z2k (s:List UInt8) (h:(rcat s).2.2=false) (h2:zeros (rcat s).2.1=false):decC s=(nilC,4):=by rw[decC,if_neg (by simp[h]),if_pos h2]
theorem Z5n (s:List UInt8) (h:(rcat s).2.2=false) (h2:zeros (rcat s).2.1=true) (h3:catChk (rcat s).1≠0):decC s=(nilC,catChk (rcat s).1):=by rw[decC,if_neg (by simp[h]),if_neg (by simp[h2]),if_neg h3]
theorem Z5m (s:List UInt8) (h:(rcat s).2.2=false) (h2:zeros (rcat s).2.1=true) (h3:catChk (rcat s).1=0):decC s=((rcat s).1,0):=by rw[decC,if_neg (by simp[h]),if_neg (by simp[h2]),if_pos h3]
theorem Z7o (r:Rd) (k:Nat):8<=behB (rblk k r).1∧behB (rblk k r).1<=8+2731*k:=by
 induction k with
 | zero=>simp[rblk,behB]
 | succ k ih=>
  have h:=Z1H (rblk k r).2;have e:behB (rblk (k+1) r).1=behB (rblk k r).1+secs (rnum 2 (rblk k r).2).1.toNat:=by
   show behB ((rblk k r).1++[_])=_
   simp[behB]
  rw[e];unfold secs;omega
theorem Qg (r:Rd) (k:Nat):(rblk k r).1.length=k:=by
 induction k with
 | zero=>rfl
 | succ k ih=>show ((rblk k r).1++[_]).length=_; rw[List.length_append,ih]; rfl
theorem Qc (r:Rd) (k:Nat):(rent k r).1.length=k:=by
 induction k with
 | zero=>rfl
 | succ k ih=>show ((rent k r).1++[_]).length=_; rw[List.length_append,ih]; rfl
def Eats {α:Type} (P:Rd->α × Rd) (x:List UInt8) (a:α):Prop:=(∀ y,P (x++y,false)=(a,(y,false)))∧∀ k,k<x.length->(P (x.take k,false)).2.2=true
theorem Xl {α β:Type} {P:Rd->α × Rd} {x:List UInt8} {a:α} (Q:α->Rd->β × Rd) {y:List UInt8} {b:β} (hP:Eats P x a) (hQ:Eats (Q a) y b) (hs:∀ c r,r.2=true->(Q c r).2.2=true):Eats (fun r=>Q (P r).1 (P r).2) (x++y) b:=by
 refine⟨fun z=>?_,fun k hk=>?_⟩
 ·show Q (P (x++y++z,false)).1 (P (x++y++z,false)).2=_
  rw[List.append_assoc,hP.1,hQ.1]
 ·show (Q (P ((x++y).take k,false)).1 (P ((x++y).take k,false)).2).2.2=true
  by_cases h:k<x.length
  ·rw[List.take_append_of_le_length (by omega)]
   exact hs _ _ (hP.2 k h)
  ·obtain⟨j,rfl⟩:∃ j,k=x.length+j:=⟨k-x.length,by omega⟩
   rw[List.take_length_add_append,hP.1];exact hQ.2 j (by simp at hk; omega)
theorem YK {α β:Type} {P:Rd->α × Rd} {x:List UInt8} {a:α} (f:α->β) (h:Eats P x a):Eats (fun r=>(f (P r).1,(P r).2)) x (f a):=
 ⟨fun y=>by show (f (P (x++y,false)).1,(P (x++y,false)).2)=_; rw[h.1],fun k hk=>h.2 k hk⟩
theorem Z1c (x:List UInt8):Eats (tk x.length) x x:=by
 refine⟨fun y=>?_,fun k hk=>?_⟩
 ·rw[Je _ _ (by simp)]; simp
 ·rw[Z2K _ _ (by simp; omega)]
theorem Z2h (x:List UInt8):Eats (rnum x.length) x (XT x):=by
 refine⟨fun y=>?_,fun k hk=>?_⟩
 ·rw[rnum,(Z1c x).1 y]
 ·exact (Z1c x).2 k hk
theorem Vp (n:Int) (h0:0<=n) (h1:n<256):Eats (rnum 1) [byt n] n:=by
 have:=Z2h [byt n]
 rw[Ql,byt_nat n h0 h1] at this;exact this
theorem Z2g (n:Int) (h0:0<=n) (h1:n<65536):Eats (rnum 2) (be2 n) n:=by
 have:=Z2h (be2 n)
 rw[be2,num_two,byt_nat _ (by omega) (by omega),byt_nat _ (by omega) (by omega)] at this
 rw[show n / 256*256+n % 256=n by omega] at this
 exact this
theorem Z3r (x:En) (m:Nat) (hm:m<=10) (h:enOk x m=true):Eats rent1 (encE x) x:=by
 obtain⟨h1,h2,h3,h4⟩:=(ZO x m).1 h;have h5:=Zs _ h1;have q1:Eats e1 ([byt x.s.size]++x.s.data.toList) x.s.data.toList:=Xl (fun (n:Int) r=>tk n.toNat r) (Vp x.s.size (by omega) (by omega)) (by rw[Int.toNat_natCast,<- ba_len]; exact Z1c _) (fun c r h=>TY _ r h)
 have q2:Eats (fun r=>(((e1 r).1,(e2 r).1),(e2 r).2)) ([byt x.s.size]++x.s.data.toList++[byt x.b]) (x.s.data.toList,x.b):=Xl (fun a r=>((a,(rnum 1 r).1),(rnum 1 r).2)) q1 (YK (fun v=>(x.s.data.toList,v)) (Vp x.b (by omega) (by omega))) (fun c r h=>ZF 1 r h)
 have q3:Eats (fun r=>(((e1 r).1,(e2 r).1,(e3 r).1),(e3 r).2)) ([byt x.s.size]++x.s.data.toList++[byt x.b]++be2 x.a) (x.s.data.toList,x.b,x.a):=Xl (fun (a:List UInt8 × Int) r=>((a.1,a.2,(rnum 2 r).1),(rnum 2 r).2)) q2 (YK (fun v=>(x.s.data.toList,x.b,v)) (Z2g x.a (by omega) (by omega))) (fun c r h=>ZF 2 r h)
 have q4:Eats rent1 ([byt x.s.size]++x.s.data.toList++[byt x.b]++be2 x.a++[byt x.n]) ⟨str x.s.data.toList,x.b,x.a,x.n⟩:=Xl (fun (a:List UInt8 × Int × Int) r=>((⟨str a.1,a.2.1,a.2.2,(rnum 1 r).1⟩:En),(rnum 1 r).2)) q3 (YK (fun v=>(⟨str x.s.data.toList,x.b,x.a,v⟩:En)) (Vp x.n (by omega) (by omega))) (fun c r h=>ZF 1 r h)
 rw[V7] at q4;have e:encE x=[byt x.s.size]++x.s.data.toList++[byt x.b]++be2 x.a++[byt x.n]:=by simp[encE]
 rw[e];exact q4
theorem Z08 (E:List En) (m:Nat) (hm:m<=10) (k:Nat) (hk:k<=E.length) (h:∀ j,j<k->enOk (en E j) m=true):Eats (rent k) (XO (E.take k)) (E.take k):=by
 induction k with
 | zero=>
  rw[List.take_zero];exact⟨fun y=>rfl,fun j hj=>by simp[XO] at hj⟩
 | succ k ih=>
  have e:XO (E.take (k+1))=XO (E.take k)++encE (en E k):=by rw[en_take E k (by omega)]; simp[XO]
  rw[e,en_take E k (by omega)]
  exact Xl (fun (a:List En) r=>(a++[(rent1 r).1],(rent1 r).2)) (ih (by omega) (fun j hj=>h j (by omega))) (YK (fun v=>E.take k++[v]) (Z3r (en E k) m hm (h k (by omega)))) (fun c r h=>by show (rent1 r).2.2=true; exact UF r h)
theorem QL (L:List Bk) (k:Nat) (hk:k<=L.length) (h:∀ j,j<k->bkOk L j=true):behB (L.take k)=atB L k:=by
 cases k with
 | zero=>rfl
 | succ k=>
  rw[QK L k (by omega)]
  obtain⟨h1,_,_⟩:=(Xb L k).1 (h k (by omega))
  rw[atB_succ];simp only[behB,List.getLast?_append,List.getLast?_singleton,Option.some_or]
  omega
theorem Z1d (L:List Bk) (k:Nat) (hk:k<=L.length) (h:∀ j,j<L.length->bkOk L j=true):Eats (rblk k) (Xr (L.take k)) (L.take k):=by
 induction k with
 | zero=>
  rw[List.take_zero];exact⟨fun y=>rfl,fun j hj=>by simp[Xr] at hj⟩
 | succ k ih=>
  have e:Xr (L.take (k+1))=Xr (L.take k)++be2 (bk L k).n:=by rw[QK L k (by omega)]; simp[Xr]
  obtain⟨h1,h2,_⟩:=(Xb L k).1 (h k (by omega))
  have hb:(⟨behB (L.take k),(bk L k).n⟩:Bk)=bk L k:=by
   rw[QL L k (by omega) (fun j hj=>h j (by omega)),<- h1]
  rw[e,QK L k (by omega),<- hb]
  exact Xl stB (ih (by omega)) (YK (fun v=>L.take k++[(⟨behB (L.take k),v⟩:Bk)]) (Z2g (bk L k).n (by omega) (by omega))) (fun c r h=>ZF 2 r h)
theorem Z6S (C:Ct) (h:catChk C=0):Eats (fun r=>(((c1 r).1,(c3 r).1),(c3 r).2)) (encB C) C:=by
 obtain⟨h1,h2,h3,h4⟩:=Xg C h;have g1:=Z1d C.1 C.1.length (Nat.le_refl _) (Wj C.1 _ h3);have g2:=Z08 C.2 C.1.length h1 C.2.length (Nat.le_refl _) (WJ C.2 _ _ h4);rw[List.take_length] at g1 g2;have q1:Eats c1 ([byt C.1.length]++Xr C.1) C.1:=Xl (fun (n:Int) r=>rblk n.toNat r) (Vp (C.1.length:Int) (by omega) (by omega)) (by rw[Int.toNat_natCast]; exact g1) (fun c r h=>VE 0 _ r h (Nat.zero_le _))
 have q2:Eats (fun r=>(((c1 r).1,(c2 r).1),(c2 r).2)) ([byt C.1.length]++Xr C.1++[byt C.2.length]) (C.1,(C.2.length:Int)):=Xl (fun a r=>((a,(rnum 1 r).1),(rnum 1 r).2)) q1 (YK (fun v=>(C.1,v)) (Vp (C.2.length:Int) (by omega) (by omega))) (fun c r h=>ZF 1 r h)
 exact Xl (fun (a:List Bk × Int) r=>((a.1,(rent a.2.toNat r).1),(rent a.2.toNat r).2)) q2 (YK (fun v=>(C.1,v)) (by rw[Int.toNat_natCast]; exact g2)) (fun c r h=>Ya 0 _ r h (Nat.zero_le _))
theorem Z73 (C:Ct) (h:catChk C=0) (n:Nat):decC (encB C++List.replicate n 0)=(C,0):=by
 have e:rcat (encB C++List.replicate n 0)=(C,(List.replicate n 0,false)):=(Z6S C h).1 _;rw[Z5m _ (by rw[e]) (by rw[e]; simp[zeros]) (by rw[e]; exact h),e]
end Go.Proofs.YtdnacpbgodooaaaGreatDoor
namespace Go.Proofs.YtdnacpbgodooaaaGreatDoor
def Y5 (l:List UInt8) (k i:Nat):Nat->Nat->Nat
 | 0,n=>n
 | f+1,n=>if i+n<l.length∧bat l (k+n)=bat l (i+n) then Y5 l k i f (n+1) else n
def alike (l:List UInt8) (k i:Nat):Nat:=Y5 l k i 131 0
theorem U6 (l:List UInt8) (k i:Nat):∀ f n,i+n<=l.length->(∀ j,j<n->bat l (k+j)=bat l (i+j)) ->
  Y5 l k i f n<=n+f∧i+Y5 l k i f n<=l.length∧(∀ j,j<Y5 l k i f n->bat l (k+j)=bat l (i+j)) ∧
   (Y5 l k i f n=n+f∨i+Y5 l k i f n=l.length∨bat l (k+Y5 l k i f n)≠bat l (i+Y5 l k i f n))
 | 0,n,h,ha=>⟨Nat.le_refl _,h,ha,.inl rfl⟩
 | f+1,n,h,ha=>by
  rw[Y5]
  by_cases c:i+n<l.length∧bat l (k+n)=bat l (i+n)
  ·rw[if_pos c]
   obtain⟨r1,r2,r3,r4⟩:=U6 l k i f (n+1) (by omega) (fun j hj=>by
    rcases Nat.lt_succ_iff_lt_or_eq.1 hj with h' | rfl
    ·exact ha j h'
    ·exact c.2)
   exact⟨by omega,r2,r3,r4.imp (fun h=>by omega) id⟩
  ·rw[if_neg c]
   refine⟨by omega,h,ha,?_⟩
   by_cases e:i+n=l.length
   ·exact .inr (.inl e)
   ·exact .inr (.inr fun x=>c ⟨by omega,x⟩)
theorem TS (l:List UInt8) (k i:Nat) (h:i<=l.length):alike l k i<=131∧i+alike l k i<=l.length∧(∀ j,j<alike l k i->bat l (k+j)=bat l (i+j)) ∧
   (alike l k i=131∨i+alike l k i=l.length∨bat l (k+alike l k i)≠bat l (i+alike l k i)):=by
 have:=U6 l k i 131 0 (by omega) (fun j hj=>by omega)
 simpa[alike] using this
theorem WB (l:List UInt8) (k i n:Nat) (hn:n<=131) (hi:i+n<=l.length) (ha:∀ j,j<n->bat l (k+j)=bat l (i+j))
  (hs:n=131∨i+n=l.length∨bat l (k+n)≠bat l (i+n)):alike l k i=n:=by
 obtain⟨r1,r2,r3,r4⟩:=TS l k i (by omega)
 rcases Nat.lt_trichotomy (alike l k i) n with h | h | h
 ·rcases r4 with r4 | r4 | r4
  ·omega
  ·omega
  ·exact absurd (ha _ h) r4
 ·exact h
 ·rcases hs with hs | hs | hs
  ·omega
  ·omega
  ·exact absurd (r3 _ h) hs
def Zi (l:List UInt8) (i:Nat):Nat->Nat × Nat
 | 0=>(0,0)
 | m+1=>if (Zi l i m).1<alike l (i-(m+1)) i then (alike l (i-(m+1)) i,m+1) else Zi l i m
def best (l:List UInt8) (i:Nat):Nat × Nat:=Zi l i (min i 255)
theorem Z0f (l:List UInt8) (i:Nat) (h:i<=l.length):∀ m,(Zi l i m).1<=131∧i+(Zi l i m).1<=l.length∧(Zi l i m).2<=m ∧
  (0<(Zi l i m).1->1<=(Zi l i m).2∧∀ j,j<(Zi l i m).1->bat l (i-(Zi l i m).2+j)=bat l (i+j))
 | 0=>⟨by simp[Zi],by simpa[Zi] using h,by simp[Zi],fun h=>by simp[Zi] at h⟩
 | m+1=>by
  obtain⟨r1,r2,r3,r4⟩:=Z0f l i h m;obtain⟨s1,s2,s3,s4⟩:=TS l (i-(m+1)) i h;rw[Zi]
  split
  ·exact⟨s1,s2,Nat.le_refl _,fun _=>⟨by simp,s3⟩⟩
  ·exact⟨r1,r2,by omega,r4⟩
theorem Z1t (l:List UInt8) (i:Nat) (h:i<=l.length):(best l i).1<=131∧i+(best l i).1<=l.length∧(best l i).2<=i∧(best l i).2<=255 ∧
  (0<(best l i).1->1<=(best l i).2∧∀ j,j<(best l i).1->bat l (i-(best l i).2+j)=bat l (i+j)):=by
 obtain⟨r1,r2,r3,r4⟩:=Z0f l i h (min i 255);exact⟨r1,r2,by unfold best; omega,by unfold best; omega,r4⟩
theorem Z5N {o r p:List UInt8} (h:o++r=p):o.length<=p.length:=by rw[<- h]; simp
def plainGo:Nat->List UInt8->List UInt8
 | 0,_=>[]
 | f+1,l=>if l.length=0 then [] else byt ((min l.length 128:Nat)-1)::(l.take 128++plainGo f (l.drop 128))
def plainly (l:List UInt8):List UInt8:=plainGo l.length l
theorem YZ:∀ (f g:Nat) (l:List UInt8),l.length<=f->l.length<=g->plainGo f l=plainGo g l
 | 0,0,_,_,_=>rfl
 | 0,g+1,l,h,_=>by rw[plainGo,plainGo,if_pos (by omega)]
 | f+1,0,l,_,h=>by rw[plainGo,plainGo,if_pos (by omega)]
 | f+1,g+1,l,h,h'=>by
  rw[plainGo,plainGo]
  by_cases h0:l.length=0
  ·rw[if_pos h0,if_pos h0]
  ·rw[if_neg h0,if_neg h0,YZ f g (l.drop 128) (by simp; omega) (by simp; omega)]
theorem plainly_eq (l:List UInt8):plainly l=if l.length=0 then [] else byt ((min l.length 128:Nat)-1)::(l.take 128++plainly (l.drop 128)):=by
 rw[plainly,YZ l.length (l.length+1) l (Nat.le_refl _) (by omega),plainGo,plainly,YZ l.length (l.drop 128).length (l.drop 128) (by simp) (Nat.le_refl _)]
theorem plainly_nil:plainly []=[]:=rfl
theorem plainly_length (l:List UInt8):(plainly l).length=l.length+(l.length+127) / 128:=by
 induction hn:l.length using Nat.strongRecOn generalizing l with
 | _ n ih=>
  rw[plainly_eq]
  split
  ·rename_i h; simp; omega
  ·rename_i h
   have k:=ih (l.drop 128).length (by simp; omega) (l.drop 128) rfl
   simp only[List.length_cons,List.length_append,k,List.length_take,List.length_drop]
   omega
def restGo (l:List UInt8):Nat->Nat->Nat->List UInt8
 | 0,f,_=>plainly (cut l f l.length)
 | n+1,f,i=>
  if l.length<=i then plainly (cut l f l.length)
  else if (best l i).1<4 then restGo l n f (i+1)
  else plainly (cut l f i)++byt (124+(best l i).1)::byt (best l i).2::restGo l n (i+(best l i).1) (i+(best l i).1)
def rest (l:List UInt8) (f i:Nat):List UInt8:=restGo l (l.length-i) f i
theorem XL (l:List UInt8):∀ (n m f i:Nat),l.length-i<=n->l.length-i<=m->restGo l n f i=restGo l m f i
 | 0,0,_,_,_,_=>rfl
 | 0,m+1,f,i,h,_=>by rw[restGo,restGo,if_pos (by omega)]
 | n+1,0,f,i,_,h=>by rw[restGo,restGo,if_pos (by omega)]
 | n+1,m+1,f,i,h,h'=>by
  rw[restGo,restGo]
  by_cases h0:l.length<=i
  ·rw[if_pos h0,if_pos h0]
  ·rw[if_neg h0,if_neg h0]
   by_cases h4:(best l i).1<4
   ·rw[if_pos h4,if_pos h4,XL l n m f (i+1) (by omega) (by omega)]
   ·rw[if_neg h4,if_neg h4,XL l n m (i+(best l i).1) (i+(best l i).1) (by omega) (by omega)]
theorem Z0K (l:List UInt8) (f i:Nat):rest l f i=if l.length<=i then plainly (cut l f l.length)
  else if (best l i).1<4 then rest l f (i+1)
  else plainly (cut l f i)++byt (124+(best l i).1)::byt (best l i).2::rest l (i+(best l i).1) (i+(best l i).1):=by
 rw[rest,XL l (l.length-i) (l.length-i+1) f i (Nat.le_refl _) (by omega),restGo,rest,rest,XL l (l.length-i) (l.length-(i+1)) f (i+1) (by omega) (Nat.le_refl _),XL l (l.length-i) (l.length-(i+(best l i).1)) (i+(best l i).1) (i+(best l i).1) (by omega) (Nat.le_refl _)]
def packed (l:List UInt8):List UInt8:=rest l 0 0
theorem Z1J (l:List UInt8) (f i:Nat) (h:l.length<=i):rest l f i=plainly (cut l f l.length):=by rw[Z0K,if_pos h]
theorem Jw (l:List UInt8) (f i:Nat) (h:i<l.length) (h':(best l i).1<4):rest l f i=rest l f (i+1):=by rw[Z0K,if_neg (by omega),if_pos h']
theorem Jv (l:List UInt8) (f i:Nat) (h:i<l.length) (h':4<=(best l i).1):
  rest l f i=plainly (cut l f i)++byt (124+(best l i).1)::byt (best l i).2::rest l (i+(best l i).1) (i+(best l i).1):=by rw[Z0K,if_neg (by omega),if_neg (by omega)]
theorem Z1L {l o:List UInt8} {f i:Nat} (h:o++rest l f i=packed l) (hi:i<l.length) (h4:4<=(best l i).1):
  (o++plainly (cut l f i)++[byt (124+(best l i).1),byt (best l i).2])++rest l (i+(best l i).1) (i+(best l i).1)=packed l:=by
 rw[<- h,Jv l f i hi h4]; simp
theorem Z1M {l o:List UInt8} {f i:Nat} (h:o++rest l f i=packed l) (hi:i<l.length) (h4:(best l i).1<4):o++rest l f (i+1)=packed l:=by
 rw[<- h,Jw l f i hi h4]
theorem Z4h {l o:List UInt8} {f i:Nat} (h:o++rest l f i=packed l) (hi:l.length<=i):o++plainly (cut l f l.length)=packed l:=by
 rw[<- h,Z1J l f i hi]
theorem Z0J (l:List UInt8) (f i:Nat) (hi:i<=l.length) (hf:f<=i):(rest l f i).length+f+f / 128<=l.length+(l.length+127) / 128:=by
 induction hn:l.length-i using Nat.strongRecOn generalizing f i with
 | _ n ih=>
  by_cases h:l.length<=i
  ·rw[Z1J l f i h,plainly_length,cut_length l f _ (Nat.le_refl _)]; omega
  ·by_cases h':(best l i).1<4
   ·rw[Jw l f i (by omega) h']; exact ih _ (by omega) f (i+1) (by omega) (by omega) rfl
   ·have hb:=Z1t l i hi
    have k:=ih _ (by omega) (i+(best l i).1) (i+(best l i).1) (by omega) (Nat.le_refl _) rfl
    rw[Jv l f i (by omega) (by omega)]
    simp only[List.length_append,List.length_cons,plainly_length,cut_length l f i hi]
    omega
theorem YA (l:List UInt8):(packed l).length<=l.length+(l.length+127) / 128:=by
 have:=Z0J l 0 0 (Nat.zero_le _) (Nat.le_refl _)
 unfold packed; omega
def piece (out:List UInt8) (d:Nat):Nat->List UInt8
 | 0=>out
 | n+1=>piece out d n++[bat (piece out d n) ((piece out d n).length-d)]
theorem Xf (out:List UInt8) (d:Nat):∀ n,(piece out d n).length=out.length+n
 | 0=>rfl
 | n+1=>by simp[piece,Xf out d n]; omega
def unpGo:Nat->List UInt8->List UInt8->List UInt8 × Int
 | 0,out,_=>(out,0)
 | n+1,out,l=>
  if l.length=0 then (out,0)
  else if (bat l 0).toNat<128 then
   if l.length<(bat l 0).toNat+2 then ([],5)
   else if 600<out.length+((bat l 0).toNat+1) then ([],1)
   else unpGo n (out++(l.drop 1).take ((bat l 0).toNat+1)) (l.drop ((bat l 0).toNat+2))
  else if l.length<2 then ([],5)
  else if (bat l 1).toNat=0∨out.length<(bat l 1).toNat then ([],4)
  else if 600<out.length+((bat l 0).toNat-124) then ([],1)
  else unpGo n (piece out (bat l 1).toNat ((bat l 0).toNat-124)) (l.drop 2)
def unp (out l:List UInt8):List UInt8 × Int:=unpGo l.length out l
theorem Y7:∀ (n m:Nat) (out l:List UInt8),l.length<=n->l.length<=m->unpGo n out l=unpGo m out l
 | 0,0,_,_,_,_=>rfl
 | 0,m+1,out,l,h,_=>by rw[unpGo,unpGo,if_pos (by omega)]
 | n+1,0,out,l,_,h=>by rw[unpGo,unpGo,if_pos (by omega)]
 | n+1,m+1,out,l,h,h'=>by
  rw[unpGo,unpGo]
  by_cases h0:l.length=0
  ·rw[if_pos h0,if_pos h0]
  ·rw[if_neg h0,if_neg h0,Y7 n m _ (l.drop ((bat l 0).toNat+2)) (by simp; omega) (by simp; omega),Y7 n m _ (l.drop 2) (by simp; omega) (by simp; omega)]
theorem Z7r (out:List UInt8):unp out []=(out,0):=rfl
theorem Um (out l:List UInt8) (h0:0<l.length):unp out l =
  if (bat l 0).toNat<128 then
   if l.length<(bat l 0).toNat+2 then ([],5)
   else if 600<out.length+((bat l 0).toNat+1) then ([],1)
   else unp (out++(l.drop 1).take ((bat l 0).toNat+1)) (l.drop ((bat l 0).toNat+2))
  else if l.length<2 then ([],5)
  else if (bat l 1).toNat=0∨out.length<(bat l 1).toNat then ([],4)
  else if 600<out.length+((bat l 0).toNat-124) then ([],1)
  else unp (piece out (bat l 1).toNat ((bat l 0).toNat-124)) (l.drop 2):=by
 rw[unp,Y7 l.length (l.length+1) out l (Nat.le_refl _) (by omega),unpGo,if_neg (by omega),unp,unp,Y7 l.length (l.drop ((bat l 0).toNat+2)).length _ (l.drop ((bat l 0).toNat+2)) (by simp) (Nat.le_refl _),Y7 l.length (l.drop 2).length _ (l.drop 2) (by simp) (Nat.le_refl _)]
end Go.Proofs.YtdnacpbgodooaaaGreatDoor
namespace Go.Proofs.YtdnacpbgodooaaaGreatDoor
def unpAt (O l:List UInt8) (i:Nat):List UInt8 × Int:=unp O (l.drop i)
theorem Jc (O l:List UInt8) (i:Nat) (h:l.length<=i):unpAt O l i=(O,0):=by rw[unpAt,List.drop_eq_nil_of_le h,Z7r]
theorem bat_drop (l:List UInt8) (i:Nat):bat (l.drop i) 0=bat l i:=by simp[bat]
theorem bat_drop1 (l:List UInt8) (i:Nat):bat (l.drop i) 1=bat l (i+1):=by simp[bat]
theorem Z6X (l:List UInt8) (i n:Nat):cut l i (i+n)=(l.drop i).take n:=by rw[cut,List.take_drop]
theorem Uo (O l:List UInt8) (i:Nat) (h:i<l.length) (hc:(bat l i).toNat<128) (hs:l.length<i+2+(bat l i).toNat):unpAt O l i=([],5):=by
 rw[unpAt,Um _ _ (by simp; omega),bat_drop,if_pos hc,if_pos (by simp; omega)]
theorem Tu (O l:List UInt8) (i:Nat) (h:i<l.length) (hc:(bat l i).toNat<128) (hs:i+2+(bat l i).toNat<=l.length) (h6:600<O.length+((bat l i).toNat+1)):unpAt O l i=([],1):=by
 rw[unpAt,Um _ _ (by simp; omega),bat_drop,if_pos hc,if_neg (by simp; omega),if_pos h6]
theorem Uq (O l:List UInt8) (i:Nat) (h:i<l.length) (hc:(bat l i).toNat<128) (hs:i+2+(bat l i).toNat<=l.length) (h6:O.length+((bat l i).toNat+1)<=600):
  unpAt O l i=unpAt (O++cut l (i+1) (i+2+(bat l i).toNat)) l (i+2+(bat l i).toNat):=by
 rw[unpAt,Um _ _ (by simp; omega),bat_drop,if_pos hc,if_neg (by simp; omega),if_neg (by omega),unpAt,List.drop_drop,List.drop_drop,<- Z6X]
 rw[show i+1+((bat l i).toNat+1)=i+2+(bat l i).toNat by omega,show i+((bat l i).toNat+2)=i+2+(bat l i).toNat by omega]
theorem VR (O l:List UInt8) (i:Nat) (h:i<l.length) (hc:128<=(bat l i).toNat) (hs:l.length<i+2):unpAt O l i=([],5):=by
 rw[unpAt,Um _ _ (by simp; omega),bat_drop,if_neg (by omega),if_pos (by simp; omega)]
theorem Tv (O l:List UInt8) (i:Nat) (hc:128<=(bat l i).toNat) (hs:i+2<=l.length) (hf:(bat l (i+1)).toNat=0∨O.length<(bat l (i+1)).toNat):unpAt O l i=([],4):=by
 rw[unpAt,Um _ _ (by simp; omega),bat_drop,bat_drop1,if_neg (by omega),if_neg (by simp; omega),if_pos hf]
theorem Un (O l:List UInt8) (i:Nat) (hc:128<=(bat l i).toNat) (hs:i+2<=l.length) (hf:¬ ((bat l (i+1)).toNat=0∨O.length<(bat l (i+1)).toNat)) (h6:600<O.length+((bat l i).toNat-124)):unpAt O l i=([],1):=by
 rw[unpAt,Um _ _ (by simp; omega),bat_drop,bat_drop1,if_neg (by omega),if_neg (by simp; omega),if_neg hf,if_pos h6]
theorem Ur (O l:List UInt8) (i:Nat) (hc:128<=(bat l i).toNat) (hs:i+2<=l.length) (hf:¬ ((bat l (i+1)).toNat=0∨O.length<(bat l (i+1)).toNat)) (h6:O.length+((bat l i).toNat-124)<=600):
  unpAt O l i=unpAt (piece O (bat l (i+1)).toNat ((bat l i).toNat-124)) l (i+2):=by
 rw[unpAt,Um _ _ (by simp; omega),bat_drop,bat_drop1,if_neg (by omega),if_neg (by simp; omega),if_neg hf,if_neg (by omega),unpAt,List.drop_drop]
end Go.Proofs.YtdnacpbgodooaaaGreatDoor
