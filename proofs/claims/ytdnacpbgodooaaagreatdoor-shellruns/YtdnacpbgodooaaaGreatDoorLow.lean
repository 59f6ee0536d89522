import Derived.WalkKit
namespace Go.Proofs.YtdnacpbgodooaaaGreatDoor
def byt (n:Int):UInt8:=UInt8.ofNat n.toNat
theorem byt_nat (n:Int) (h0:0<=n) (h1:n<256):((byt n).toNat:Int)=n:=by
 unfold byt;rw[UInt8.toNat_ofNat'];omega
theorem byt_of (c:UInt8):byt (c.toNat:Int)=c:=by
 unfold byt
 simp
def be2 (n:Int):List UInt8:=[byt (n / 256),byt (n % 256)]
def str (l:List UInt8):ByteArray:=⟨l.toArray⟩
theorem str_app (a b:List UInt8):str a++str b=str (a++b):=ByteArray.mk_append_mk a b
theorem str_size (l:List UInt8):(str l).size=l.length:=by simp[str,ByteArray.size]
theorem str_list (l:List UInt8):(str l).data.toList=l:=by simp[str]
theorem VC {a b:ByteArray} (h:a=b):Ending.returned (.string a)=.returned (.string b):=by rw[h]
theorem ret_int {k:IntKind} {a b:Int} (h:a=b):Ending.returned (.int k a)=.returned (.int k b):=by rw[h]
theorem Z7 {a b:Bool} (h:a=b):Ending.returned (.bool a)=.returned (.bool b):=by rw[h]
def step (p:Int × Int) (c:UInt8):Int × Int:=((p.1+c.toNat) % 65521,(p.2+(p.1+c.toNat) % 65521) % 65521)
def adl (l:List UInt8):Int × Int:=l.foldl step (1,0)
def Zk (l:List UInt8):List UInt8:=be2 (adl l).2++be2 (adl l).1
theorem QP (l:List UInt8) (c:UInt8):adl (l++[c])=step (adl l) c:=by simp[adl]
theorem Z2B (l:List UInt8):(0<=(adl l).1∧(adl l).1<65521)∧0<=(adl l).2∧(adl l).2<65521:=by
 rcases List.eq_nil_or_concat l with rfl | ⟨l',c,rfl⟩
 ·simp[adl]
 ·rw[List.concat_eq_append,QP]
  simp only[step]
  omega
theorem take_snoc (s:ByteArray) (k:Nat) (h:k<s.size):s.data.toList.take (k+1)=s.data.toList.take k++[s[k]]:=by
 rw[List.take_succ_eq_append_getElem (by simpa using h)]; rfl
theorem Yw (l:List UInt8):(Zk l).length=4:=rfl
theorem Z8p (a b:Int) (a0:0<=a) (a1:a<65521) (b0:0<=b) (b1:b<65521) (h:be2 a=be2 b):a=b:=by
 simp only[be2,List.cons.injEq,and_true] at h
 have h1:=byt_nat (a / 256) (by omega) (by omega)
 have h2:=byt_nat (b / 256) (by omega) (by omega)
 have h3:=byt_nat (a % 256) (by omega) (by omega)
 have h4:=byt_nat (b % 256) (by omega) (by omega)
 rw[h.1] at h1;rw[h.2] at h3;omega
theorem Z3n (l:List UInt8):∃ t:Int,∀ q:Int × Int,(l.foldl step q).1 % 65521=(q.1+t) % 65521:=by
 induction l with
 | nil=>exact⟨0,fun q=>by simp⟩
 | cons c l ih=>
  obtain⟨t,h2⟩:=ih;refine⟨c.toNat+t,fun q=>?_⟩
  rw[List.foldl_cons,h2]; simp only[step]; omega
theorem Z5Q (a b:List UInt8) (c d:UInt8) (h:c≠d):(adl (a++c::b)).1≠(adl (a++d::b)).1:=by
 intro e;obtain⟨t,h2⟩:=Z3n b;have k1:=h2 (step (adl a) c);have k2:=h2 (step (adl a) d);have hc:=c.toNat_lt;have hd:=d.toNat_lt;have hne:c.toNat≠d.toNat:=fun x=>h (UInt8.toNat_inj.1 x)
 have f1:adl (a++c::b)=b.foldl step (step (adl a) c):=by simp[adl]
 have f2:adl (a++d::b)=b.foldl step (step (adl a) d):=by simp[adl]
 rw[<- f1] at k1;rw[<- f2] at k2;rw[e] at k1;simp only[step] at k1 k2
 omega
theorem Jp (l:List UInt8) (k:Nat) (hk:k<l.length) (d:UInt8) (h:d≠l[k]):Zk (l.set k d)≠Zk l:=by
 intro e;have e1:=(List.append_inj e (by simp[be2])).2
 have b1:=(Z2B (l.set k d)).1;have b2:=(Z2B l).1;have e2:=Z8p _ _ b1.1 b1.2 b2.1 b2.2 e1;rw[List.set_eq_take_append_cons_drop,if_pos hk] at e2;have hl:l=l.take k++l[k]::l.drop (k+1):=by rw[List.getElem_cons_drop,List.take_append_drop]
 have:=Z5Q (l.take k) (l.drop (k+1)) d l[k] h
 rw[<- hl] at this;exact this e2
end Go.Proofs.YtdnacpbgodooaaaGreatDoor
namespace Go.Proofs.YtdnacpbgodooaaaGreatDoor
open Go.RowKit
theorem Z1I {a b:ByteArray} {k:IntKind} {n:Int} (h:a=b):Ending.returned (.tuple #[.string a,.int k n])=.returned (.tuple #[.string b,.int k n]):=by rw[h]
def bat (l:List UInt8) (j:Nat):UInt8:=l[j]?.getD 0
theorem bat_lt (l:List UInt8) (j:Nat) (h:j<l.length):bat l j=l[j]:=by simp[bat,h]
theorem Z8q (a b:List UInt8) (j:Nat) (h:j<a.length):bat (a++b) j=bat a j:=by simp[bat,List.getElem?_append_left h]
theorem Z5G (a b:List UInt8) (j:Nat) (h:a.length<=j):bat (a++b) j=bat b (j-a.length):=by simp[bat,List.getElem?_append_right h]
theorem XY (s:ByteArray) (j:Nat) (h:j<s.size):bat s.data.toList j=s[j]:=by
 rw[bat_lt _ _ (by simpa using h)]; rfl
def cut (l:List UInt8) (f i:Nat):List UInt8:=(l.take i).drop f
theorem cut_length (l:List UInt8) (f i:Nat) (h:i<=l.length):(cut l f i).length=i-f:=by simp[cut]; omega
theorem Z6W (l:List UInt8) (i:Nat):cut l i i=[]:=by simp[cut]
theorem Z8j (a b:List UInt8) (f i:Nat) (h:i<=a.length):cut (a++b) f i=cut a f i:=by simp[cut,List.take_append_of_le_length h]
theorem hid {p:Prop} (h:p):Hid p:=h
theorem QF (a b:UInt8):((a.toNat:Int)==(b.toNat:Int))=decide (a=b):=by
 rw[Bool.eq_iff_iff]; simp only[beq_iff_eq,decide_eq_true_eq,Int.natCast_inj,UInt8.toNat_inj]
theorem ba_len (s:ByteArray):s.data.toList.length=s.size:=by simp
theorem ext_list (s:ByteArray) (a b:Nat):(s.extract a b).data.toList=cut s.data.toList a b:=by
 rw[cut,ByteArray.data_extract,Array.toList_extract,List.extract_eq_drop_take',List.drop_take]
theorem V7 (s:ByteArray):str s.data.toList=s:=by simp[str]
theorem ext_str (s:ByteArray) (a b:Nat):s.extract a b=str (cut s.data.toList a b):=by rw[<- ext_list,V7]
theorem Zh (s:ByteArray) (a b:Nat) (h:b<=s.size):(s.extract a b).size=b-a:=by
 rw[ByteArray.size_extract]; omega
theorem bcell {W w1:World} (hb:Below W.heap.size W w1):(∀ b o,b<W.heap.size->w1.cell? ⟨b,o,none⟩=W.cell? ⟨b,o,none⟩)∧(∀ b o,b<W.heap.size->w1.frozen? ⟨b,o,none⟩=W.frozen? ⟨b,o,none⟩):=
 ⟨fun b o h=>hb.cell (p:=⟨b,o,none⟩) h,fun b o h=>hb.frozen (p:=⟨b,o,none⟩) h⟩
end Go.Proofs.YtdnacpbgodooaaaGreatDoor
namespace Go.Proofs.YtdnacpbgodooaaaGreatDoor
def pad (l:List UInt8):List UInt8:=l++List.replicate (24-l.length) 0
theorem pad_length (l:List UInt8) (h:l.length<=24):(pad l).length=24:=by simp[pad]; omega
def body (no:Int) (l:List UInt8):List UInt8:=be2 no++pad l
theorem XP (no:Int) (l:List UInt8) (h:l.length<=24):(body no l).length=26:=by rw[body,List.length_append,pad_length l h]; rfl
def sealed (l:List UInt8):List UInt8:=l++Zk l
theorem sealed_length (l:List UInt8):(sealed l).length=l.length+4:=by rw[sealed,List.length_append,Yw]
def encd (no:Int) (l:List UInt8):List UInt8 × Int:=
 if no<0∨65535<no then ([],2) else if 24<l.length then ([],1) else (sealed (body no l),0)
def numb (l:List UInt8):Int:=256*(bat l 0).toNat+(bat l 1).toNat
def decd (no:Int) (l:List UInt8):List UInt8 × Int:=
 if l.length≠30 then ([],1) else if l.drop 26≠Zk (l.take 26) then ([],10) else if numb l≠no then ([],4) else (cut l 2 26,0)
theorem encd_ok (no:Int) (l:List UInt8) (h0:0<=no) (h1:no<=65535) (hl:l.length<=24):encd no l=(sealed (body no l),0):=by
 rw[encd,if_neg (by omega),if_neg (by omega)]
theorem Z6l (no:Int) (r:List UInt8) (h0:0<=no) (h1:no<=65535):numb (be2 no++r)=no:=by
 have e1:bat (be2 no++r) 0=byt (no / 256):=rfl;have e2:bat (be2 no++r) 1=byt (no % 256):=rfl;rw[numb,e1,e2,byt_nat _ (by omega) (by omega),byt_nat _ (by omega) (by omega)]
 omega
theorem Z1i (no k:Int) (p:List UInt8) (h0:0<=no) (h1:no<=65535) (hp:p.length=24):
  decd k (sealed (be2 no++p))=if no≠k then ([],4) else (p,0):=by
 have hb:(be2 no++p).length=26:=by rw[List.length_append,hp]; rfl
 have ht:(sealed (be2 no++p)).take 26=be2 no++p:=by rw[sealed,<- hb]; exact List.take_left
 have hd:(sealed (be2 no++p)).drop 26=Zk (be2 no++p):=by rw[sealed,<- hb]; exact List.drop_left
 have hn:numb (sealed (be2 no++p))=no:=by rw[sealed,List.append_assoc]; exact Z6l no _ h0 h1
 have hc:cut (sealed (be2 no++p)) 2 26=p:=by rw[cut,ht]; rfl
 rw[decd,if_neg (by rw[sealed_length,hb]; simp),ht,hd,if_neg (by simp),hn,hc]
theorem Vr (no:Int) (l:List UInt8) (h0:0<=no) (h1:no<=65535) (hl:l.length<=24):decd no (encd no l).1=(pad l,0):=by
 rw[encd_ok no l h0 h1 hl,body,Z1i no no (pad l) h0 h1 (pad_length l hl),if_neg (by simp)]
theorem Z1h (no:Int) (b:List UInt8) (hb:b.length=26) (k:Nat) (hk:k<30) (d:UInt8) (hd:d≠bat (sealed b) k):decd no ((sealed b).set k d)=([],10):=by
 have hl:(sealed b).length=30:=by rw[sealed_length,hb]
 rw[decd,if_neg (by rw[List.length_set,hl]; simp),if_pos]
 by_cases h:k<26
 ·have e:(sealed b).set k d=b.set k d++Zk b:=by rw[sealed,List.set_append_left _ _ (by omega)]
  have hl':(b.set k d).length=26:=by rw[List.length_set,hb]
  rw[e,List.drop_left' hl',List.take_left' hl'];rw[sealed,Z8q _ _ _ (by omega),bat_lt _ _ (by omega)] at hd
  exact fun x=>Jp b k (by omega) d hd x.symm
 ·have e:(sealed b).set k d=b++(Zk b).set (k-26) d:=by rw[sealed,List.set_append_right _ _ (by omega),hb]
  rw[e,List.drop_left' hb,List.take_left' hb];rw[sealed,Z5G _ _ _ (by omega),hb,bat_lt _ _ (by rw[Yw]; omega)] at hd
  intro x;have hj:k-26<(Zk b).length:=by rw[Yw]; omega
  have:=congrArg (fun l=>l[k-26]?) x
  simp[hj] at this
  exact hd this
end Go.Proofs.YtdnacpbgodooaaaGreatDoor
namespace Go.Proofs.YtdnacpbgodooaaaGreatDoor
open Go.RowKit
abbrev Dv:=List ByteArray × List Bool
def sec (D:Dv) (k:Nat):ByteArray:=D.1[k]?.getD (str [])
def los (D:Dv) (k:Nat):Bool:=D.2[k]?.getD false
def nil2:Dv:=([],[])
def dvMay (D:Dv):Bool:=decide (1<=D.1.length∧D.1.length<=64∧D.2.length=D.1.length)&&D.1.all fun s=>s.size==30
def UW (D:Dv):Int:=if dvMay D=true then 0 else 9
def dvTouch (D:Dv) (n:Int):Int:=if dvMay D=true then (if 0<=n∧n<D.1.length then 0 else 6) else 9
def dvPut (D:Dv) (k:Nat) (s:ByteArray) (l:Bool):Dv:=(D.1.set k s,D.2.set k l)
def dvChange (D:Dv) (n:Int) (r:ByteArray × Bool × Int):Dv × Int:=
 if dvTouch D n=0 then (if r.2.2=0 then (dvPut D n.toNat r.1 r.2.1,0) else (nil2,r.2.2)) else (nil2,dvTouch D n)
def dvRead (D:Dv) (n no:Int):List UInt8 × Int:=
 if dvTouch D n=0 then (if los D n.toNat=true then ([],11) else decd no (sec D n.toNat).data.toList) else ([],dvTouch D n)
def dvWrite (D:Dv) (n no:Int) (s:List UInt8):Dv × Int:=dvChange D n (str (encd no s).1,false,(encd no s).2)
def dvLose (D:Dv) (n:Int):Dv × Int:=dvChange D n (sec D n.toNat,true,0)
def upBy (l:List UInt8) (k:Nat) (c:Int):List UInt8:=l.set k (byt (((bat l k).toNat+c) % 256))
def dvTurn (D:Dv) (n place by_:Int):Dv × Int:=
 dvChange D n (if 0<=place∧place<30∧0<=by_∧by_<=255 then (str (upBy (sec D n.toNat).data.toList place.toNat by_),los D n.toNat,0) else (str [],false,2))
def dvNew (many start:Int):Dv × Int:=
 if 1<=many∧many<=64∧0<=start∧start<=512 then (((List.range many.toNat).map fun (i:Nat)=>str (encd (start+i) []).1,List.replicate many.toNat false),0) else (nil2,2)
theorem ZG (D:Dv):dvMay D=true↔(1<=D.1.length∧D.1.length<=64∧D.2.length=D.1.length)∧∀ s∈D.1,s.size=30:=by
 simp[dvMay]
theorem sec_lt (D:Dv) (k:Nat) (h:k<D.1.length):sec D k=D.1[k]:=by simp[sec,h]
theorem Z22 (D:Dv) (k:Nat) (h:k<D.2.length):los D k=D.2[k]:=by simp[los,h]
theorem Yv (D:Dv) (k:Nat) (h:dvMay D=true) (hk:k<D.1.length):(sec D k).size=30:=by
 rw[sec_lt D k hk]; exact ((ZG D).1 h).2 _ (List.getElem_mem hk)
theorem ZM (D:Dv) (n:Int) (h:dvTouch D n=0):dvMay D=true∧0<=n∧n<D.1.length∧D.2.length=D.1.length∧D.1.length<=64:=by
 unfold dvTouch at h
 split at h
 ·rename_i hm
  split at h
  ·rename_i hn
   have:=((ZG D).1 hm).1
   exact⟨hm,hn.1,hn.2,this.2.2,this.2.1⟩
  ·cases h
 ·cases h
theorem Z3s (D:Dv) (k:Nat) (l:Bool) (h:k<D.1.length):dvPut D k (sec D k) l=(D.1,D.2.set k l):=by
 rw[dvPut,sec_lt D k h,List.set_getElem_self]
theorem Vu (D:Dv) (k:Nat) (r:ByteArray × Bool × Int) (h:dvTouch D k=0):dvChange D k r=if r.2.2=0 then (dvPut D k r.1 r.2.1,0) else (nil2,r.2.2):=by
 rw[dvChange,if_pos h]; simp
theorem XM (D:Dv) (k:Nat) (s:ByteArray) (l:Bool):(dvPut D k s l).1.length=D.1.length∧(dvPut D k s l).2.length=D.2.length:=by simp[dvPut]
end Go.Proofs.YtdnacpbgodooaaaGreatDoor
namespace Go.Proofs.YtdnacpbgodooaaaGreatDoor
open Go.RowKit
abbrev Ar:=List Dv
def dev (A:Ar) (i:Nat):Dv:=A[i]?.getD nil2
def many (A:Ar):Nat:=(dev A 0).1.length
def Z2 (A:Ar):Bool:=decide (A.length=3)&&A.all dvMay&&decide (16<=many A∧many A<=64∧many A % 2=0∧(dev A 1).1.length=many A∧(dev A 2).1.length=many A / 2)
def Z3F (A:Ar):Int:=if Z2 A=true then 0 else 9
def arTouch (A:Ar) (n:Int):Int:=if Z2 A=true then (if 0<=n∧n<many A then 0 else 6) else 9
def part (n:Nat):Nat:=if n % 2=0 then n+1 else n-1
def mirr (A:Ar) (n:Nat):List UInt8 × Int:=
 if (dvRead (dev A 0) n n).2=0 then ((dvRead (dev A 0) n n).1,1) else if (dvRead (dev A 1) n n).2=0 then ((dvRead (dev A 1) n n).1,2) else ([],0)
def xors (s t:List UInt8):List UInt8:=List.zipWith (fun x y=>x ^^^ y) s t
def pari (A:Ar) (n:Nat):List UInt8 × Int:=dvRead (dev A 2) ((n / 2:Nat):Int) ((512+n / 2:Nat):Int)
def tell (A:Ar) (n:Nat):List UInt8 × Int × Int:=
 if 0<(mirr A n).2 then ((mirr A n).1,(mirr A n).2,0) else if (mirr A (part n)).2=0∨(pari A n).2≠0 then ([],0,11) else (xors (pari A n).1 (mirr A (part n)).1,3,0)
def arRead (A:Ar) (n:Int):List UInt8 × Int × Int:=if arTouch A n=0 then tell A n.toNat else ([],0,arTouch A n)
def both (A:Ar) (n:Nat) (s:List UInt8):Ar:=(A.set 0 (dvWrite (dev A 0) n n s).1).set 1 (dvWrite (dev A 1) n n s).1
def put (A:Ar) (n:Nat) (s:List UInt8):Ar:=
 let r:=tell A (part n)
 let B:=both (if r.2.2=0∧r.2.1=3 then both A (part n) r.1 else A) n s
 if r.2.2=0 then B.set 2 (dvWrite (dev B 2) ((n / 2:Nat):Int) ((512+n / 2:Nat):Int) (xors (pad s) r.1)).1 else B.set 2 (dvLose (dev B 2) ((n / 2:Nat):Int)).1
def arWrite (A:Ar) (n:Int) (s:List UInt8):Ar × Int:=if arTouch A n=0 then (if 24<s.length then ([],1) else (put A n.toNat s,0)) else ([],arTouch A n)
def arNew (n:Int):Ar × Int:=if 16<=n∧n<=64∧n % 2=0 then ([(dvNew n 0).1,(dvNew n 0).1,(dvNew (n / 2) 512).1],0) else ([],2)
def blank (D:Dv):Dv:=(D.1,List.replicate D.2.length true)
def arReplace (A:Ar) (d:Int):Ar × Int:=if Z2 A=true then (if 0<=d∧d<=2 then (A.set d.toNat (blank (dev (arNew (many A)).1 d.toNat)),0) else ([],2)) else ([],9)
theorem arMay_iff (A:Ar):Z2 A=true↔A.length=3∧(∀ D∈A,dvMay D=true)∧16<=many A∧many A<=64∧many A % 2=0∧(dev A 1).1.length=many A∧(dev A 2).1.length=many A / 2:=by
 simp[Z2,and_assoc]
theorem Xh (A:Ar) (n:Int) (h:arTouch A n=0):Z2 A=true∧0<=n∧n<many A:=by
 unfold arTouch at h
 split at h
 ·rename_i hm
  split at h
  ·rename_i hn
   exact⟨hm,hn.1,hn.2⟩
  ·cases h
 ·cases h
theorem WU (A:Ar) (i:Nat) (h:i<A.length):dev A i∈A:=by simp[dev,h]
theorem Z7j (A:Ar) (i:Nat) (h:i<A.length):dev A i=A[i]:=by simp[dev,h]
theorem WP (n m:Nat) (h:n<m) (hm:m % 2=0):part n<m:=by unfold part; split <;> omega
theorem Z7K (n:Nat):part n≠n:=by unfold part; split <;> omega
end Go.Proofs.YtdnacpbgodooaaaGreatDoor
namespace Go.Proofs.YtdnacpbgodooaaaGreatDoor
open Go.RowKit
theorem Yi (D:Dv) (n no:Int) (h:(dvRead D n no).2=0):(dvRead D n no).1.length=24:=by
 unfold dvRead at h ⊢
 split
 ·rename_i ht
  rw[if_pos ht] at h
  split
  ·rename_i hl
   rw[if_pos hl] at h; cases h
  ·rename_i hl
   rw[if_neg hl] at h;unfold decd at h ⊢
   split
   ·rename_i e; rw[if_pos e] at h; cases h
   ·rename_i e
    rw[if_neg e] at h
    split
    ·rename_i e2; rw[if_pos e2] at h; cases h
    ·rename_i e2
     rw[if_neg e2] at h
     split
     ·rename_i e3; rw[if_pos e3] at h; cases h
     ·rw[cut_length _ _ _ (by omega)]
 ·rename_i ht
  rw[if_neg ht] at h;exact absurd h ht
theorem mirr_len (A:Ar) (n:Nat) (h:(mirr A n).2≠0):(mirr A n).1.length=24:=by
 unfold mirr at h ⊢
 split
 ·rename_i e; exact Yi _ _ _ e
 ·rename_i e
  rw[if_neg e] at h
  split
  ·rename_i e2; exact Yi _ _ _ e2
  ·rename_i e2; rw[if_neg e2] at h; exact absurd rfl h
theorem Qn (A:Ar) (n:Nat):(mirr A n).2=0∨0<(mirr A n).2:=by
 unfold mirr
 split
 ·right; show (0:Int)<1; decide
 ·split
  ·right; show (0:Int)<2; decide
  ·left; rfl
theorem QU (s t:List UInt8) (I:Nat) (h:I<s.length) (h':I<t.length):xors (s.take (I+1)) (t.take (I+1))=xors (s.take I) (t.take I)++[s[I] ^^^ t[I]]:=by
 unfold xors;rw[List.take_succ_eq_append_getElem h,List.take_succ_eq_append_getElem h',List.zipWith_append (by simp; omega)]
 rfl
theorem Z0k (A:Ar) (h:A.length≠3):Z2 A=false:=by
 rw[Bool.eq_false_iff]; intro hm; exact h ((arMay_iff A).1 hm).1
theorem Z0l (A:Ar) (k:Nat) (hk:k<A.length) (h:dvMay (dev A k)=false):Z2 A=false:=by
 rw[Bool.eq_false_iff]; intro hm
 have:=((arMay_iff A).1 hm).2.1 _ (WU A k hk)
 rw[h] at this; cases this
theorem Z0m (A:Ar) (h3:A.length=3) (h:∀ j,j<3->dvMay (dev A j)=true):Z2 A=decide (16<=many A∧many A<=64∧many A % 2=0∧(dev A 1).1.length=many A∧(dev A 2).1.length=many A / 2):=by
 rw[Bool.eq_iff_iff,arMay_iff,decide_eq_true_eq];constructor
 ·rintro⟨_,_,r⟩; exact r
 ·intro r
  refine⟨h3,fun D hD=>?_,r⟩
  obtain⟨j,hj,rfl⟩:=List.mem_iff_getElem.1 hD
  have:=h j (by omega)
  rwa [Z7j A j hj] at this
end Go.Proofs.YtdnacpbgodooaaaGreatDoor
