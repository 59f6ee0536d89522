import Derived.Test.YtdnacpbgodooaaaGreatDoorArcM
import Derived.Test.YtdnacpbgodooaaaGreatDoorHealPure
namespace Go.Proofs.YtdnacpbgodooaaaGreatDoor
open Go.RowKit
structure Ac where
 kind:Int
 files:List Fi
 name:ByteArray
 d:Int
 n:Int
 at_:Int
 by_:Int
structure An where
 code:Int
 data:List UInt8
 names:List ByteArray
 count:Int
 gone:List Nat
structure Ha where
 A:Ar
 nx:Int
 rd:Int
def anE (e:Int):An:=⟨e,[],[],0,[]⟩
def Z0q (h:Ha) (F:List Fi):Ha × An:=if (addA h.A F).2=0 then (⟨(addA h.A F).1,h.nx,h.rd⟩,anE 0) else (h,anE (addA h.A F).2)
def Z0p (h:Ha) (s:ByteArray):Ha × An:=(h,⟨(getA h.A s).2,(getA h.A s).1,[],0,[]⟩)
def Td (h:Ha):Ha × An:=(h,⟨(opn h.A).2,[],namesE (opn h.A).1.2,0,[]⟩)
def Tm (A:Ar) (x:Ac):Dv × Int:=if x.kind=5 then dvTurn (dev A x.d.toNat) x.n x.at_ x.by_ else dvLose (dev A x.d.toNat) x.n
def Xs (h:Ha) (x:Ac):Ha × An:=if 0<=x.d∧x.d<=2 then (if (Tm h.A x).2=0 then (⟨h.A.set x.d.toNat (Tm h.A x).1,h.nx,h.rd⟩,anE 0) else (h,anE (Tm h.A x).2)) else (h,anE 2)
def Z0o (h:Ha) (d:Int):Ha × An:=if (arReplace h.A d).2=0 then (⟨(arReplace h.A d).1,h.nx,h.rd⟩,anE 0) else (h,anE (arReplace h.A d).2)
def actScrub (h:Ha) (n:Int):Ha × An:=if (arStep h.A h.nx h.rd n).e=0 then (⟨(arStep h.A h.nx h.rd n).A,(arStep h.A h.nx h.rd n).nx,(arStep h.A h.nx h.rd n).rd⟩,⟨0,[],[],(arStep h.A h.nx h.rd n).ct,(arStep h.A h.nx h.rd n).gone⟩) else (h,anE (arStep h.A h.nx h.rd n).e)
def Wk (h:Ha):Ha × An:=(h,⟨(arHealth h.A).2.2,[],[],(arHealth h.A).1,(arHealth h.A).2.1⟩)
def actS (h:Ha) (x:Ac):Ha × An:=
 if x.kind=1 then Z0q h x.files else if x.kind=2 then Z0p h x.name else if x.kind=3 then Td h else if x.kind=4∨x.kind=5 then Xs h x
 else if x.kind=6 then Z0o h x.d else if x.kind=7 then actScrub h x.n else if x.kind=8 then Wk h else (h,anE 3)
def runS (h:Ha):List Ac->Ha × List An
 | []=>(h,[])
 | x::l=>((runS (actS h x).1 l).1,(actS h x).2::(runS (actS h x).1 l).2)
def scrS (many:Int) (l:List Ac):List An × Ar × Int:=if (arNew many).2=0 then (if 200<l.length then ([],[],1) else ((runS ⟨(arNew many).1,0,0⟩ l).2,(runS ⟨(arNew many).1,0,0⟩ l).1.A,0)) else ([],[],(arNew many).2)
theorem Z7D (h:Ha) (l m:List Ac):runS h (l++m)=((runS (runS h l).1 m).1,(runS h l).2++(runS (runS h l).1 m).2):=by
 induction l generalizing h with
 | nil=>rfl
 | cons x l ih=>rw[List.cons_append,runS,ih]; rfl
theorem run_snoc (h:Ha) (l:List Ac) (x:Ac):runS h (l++[x])=((actS (runS h l).1 x).1,(runS h l).2++[(actS (runS h l).1 x).2]):=by rw[Z7D]; rfl
theorem Z4b (h:Ha) (l:List Ac):(runS h l).2.length=l.length:=by
 induction l generalizing h with
 | nil=>rfl
 | cons x l ih=>rw[runS,List.length_cons,ih,List.length_cons]
end Go.Proofs.YtdnacpbgodooaaaGreatDoor
namespace Go.Proofs.YtdnacpbgodooaaaGreatDoor
open Go.RowKit
theorem U2 (D:Dv) (n:Int) (r:ByteArray × Bool × Int) (h:(dvChange D n r).2=0) (hr:dvTouch D n=0->r.2.2=0->r.1.size=30):dvMay (dvChange D n r).1=true∧(dvChange D n r).1.1.length=D.1.length:=by
 unfold dvChange at h ⊢
 split at h
 ·rename_i ht
  rw[if_pos ht]
  split at h
  ·rename_i hz
   rw[if_pos hz];obtain⟨_,h0,_⟩:=ZM D n ht;obtain⟨k,rfl⟩:∃ k:Nat,n=k:=⟨n.toNat,by omega⟩
   have:=Xi (D:=D) (k:=k) (s:=r.1) (l:=r.2.1) ht (hr ht hz)
   rw[Int.toNat_natCast];exact⟨((Zu _ _).1 this).1,(XM _ _ _ _).1⟩
  ·rename_i hz; exact absurd h hz
 ·rename_i ht; exact absurd h ht
theorem YI (A:Ar) (x:Ac) (h:(Tm A x).2=0):dvMay (Tm A x).1=true∧(Tm A x).1.1.length=(dev A x.d.toNat).1.length:=by
 unfold Tm at h ⊢
 split at h
 ·rename_i e
  rw[if_pos e];refine U2 _ _ _ h fun ht hz=>?_
  split at hz
  ·rename_i hb
   rw[if_pos hb];obtain⟨hm,h0,h1,_⟩:=ZM _ _ ht;exact Ja _ _ _ (Yv _ _ hm (by omega))
  ·cases hz
 ·rename_i e
  rw[if_neg e];refine U2 _ _ _ h fun ht _=>?_
  obtain⟨hm,h0,h1,_⟩:=ZM _ _ ht;exact Yv _ _ hm (by omega)
theorem Z5R (A:Ar) (F:List Fi) (h:(addA A F).2=0):Z2 (addA A F).1=true:=by
 unfold addA at h ⊢
 split at h
 ·rename_i h0
  rw[if_pos h0];obtain⟨hc,hm,h16⟩:=Qk A h0;unfold addC at h ⊢
  split at h
  ·rename_i hf
   rw[if_pos hf]
   split at h
   ·cases h
   ·rename_i ht
    rw[if_neg ht]
    split at h
    ·cases h
    ·rename_i hu
     rw[if_neg hu];have ht':takN (opn A).1 F F.length=false:=by simpa using ht
     have hu':XU A (opn A).1 F=false:=by simpa using hu
     obtain⟨_,k1,k2,k3,k4⟩:=Z11 A (opn A).1 F hm h16 hc hf ht' hu';have hl:=Qt _ k1;have h64:=((arMay_iff A).1 hm).2.2.2.1
     have:=Q2 (Zg A (atC (opn A).1) (pk F)).1 0 (imgC (catA (opn A).1 F)) (Z5v _ k3 0 _ (by omega) (by rw[hl,k4]; unfold secs; omega))
     exact this.2.1
  ·rename_i hf; exact absurd h hf
 ·rename_i h0; exact absurd h h0
theorem UE (A:Ar) (d:Int) (h:(arReplace A d).2=0):Z2 (arReplace A d).1=true:=by
 unfold arReplace at h ⊢
 split at h
 ·rename_i hm
  rw[if_pos hm]
  split at h
  ·rename_i hd
   rw[if_pos hd];have hh:=(arMay_iff A).1 hm;have zA:=Ts (many A) hh.2.2.1 hh.2.2.2.1 hh.2.2.2.2.1;have hz:(zeroRows (many A)).length=many A:=by simp[zeroRows]
   have hg:=(arMay_iff _).1 (YJ zA);have hmn:many (goodA (zeroRows (many A)))=many A:=by rw[good_many,hz]
   rw[Z1U _ hh.2.2.1 hh.2.2.2.1 hh.2.2.2.2.1];have hk:d.toNat<3:=by omega
   have hv:=(ZG _).1 (hg.2.1 _ (WU _ d.toNat (by rw[hg.1]; exact hk)))
   have hl:(dev (goodA (zeroRows (many A))) d.toNat).1.length=(dev A d.toNat).1.length:=by
    rcases (show d.toNat=0∨d.toNat=1∨d.toNat=2 by omega) with e | e | e
    ·rw[e]; exact hmn
    ·rw[e,hg.2.2.2.2.2.1,hh.2.2.2.2.2.1,hmn]
    ·rw[e,hg.2.2.2.2.2.2,hh.2.2.2.2.2.2,hmn]
   show Z2 (A.set d.toNat (blank (dev (goodA (zeroRows (many A))) d.toNat)))=true
   refine (U1 A hm d.toNat hk (blank (dev (goodA (zeroRows (many A))) d.toNat)) ?_ hl).1
   exact (ZG _).2 ⟨⟨hv.1.1,hv.1.2.1,by simp only[blank,List.length_replicate]; exact hv.1.2.2⟩,hv.2⟩
  ·cases h
 ·cases h
theorem TZ (A:Ar) (nx rd m:Int) (h:(arStep A nx rd m).e=0):Z2 (arStep A nx rd m).A=true:=by
 unfold arStep at h ⊢
 split at h
 ·rename_i hm
  rw[if_pos hm]
  split at h
  ·rename_i hx
   rw[if_pos hx]
   split at h
   ·rename_i hN
    rw[if_pos hN];exact (Q5 (many A) A nx.toNat rd hm rfl (by omega) m.toNat).1
   ·cases h
  ·cases h
 ·cases h
end Go.Proofs.YtdnacpbgodooaaaGreatDoor
namespace Go.Proofs.YtdnacpbgodooaaaGreatDoor
open Go.RowKit
section
variable {all:List (List UInt8)} {A B:Ar}
end
end Go.Proofs.YtdnacpbgodooaaaGreatDoor
namespace Go.Proofs.YtdnacpbgodooaaaGreatDoor
open Go.RowKit
section
variable {all:List (List UInt8)} {A:Ar} {T:Nat->List Int}
end
end Go.Proofs.YtdnacpbgodooaaaGreatDoor
namespace Go.Proofs.YtdnacpbgodooaaaGreatDoor
open Go.RowKit
section
variable {all:List (List UInt8)}
end
end Go.Proofs.YtdnacpbgodooaaaGreatDoor
namespace Go.Proofs.YtdnacpbgodooaaaGreatDoor
open Go.RowKit
section
variable {all:List (List UInt8)} {C:Ct} {D:List (List UInt8)} {G:List Fi}
end
section
variable {all:List (List UInt8)} {C:Ct} {D:List (List UInt8)} {G:List Fi} {k:Nat} {S:List Int} {E:Dv} {m:Nat}
end
end Go.Proofs.YtdnacpbgodooaaaGreatDoor
namespace Go.Proofs.YtdnacpbgodooaaaGreatDoor
open Go.RowKit
section
variable {all:List (List UInt8)} {A:Ar} {T:Nat->List Int}
end
section
variable {all:List (List UInt8)} {C:Ct} {D:List (List UInt8)} {G:List Fi} {k:Nat} {S:List Int} {E:Dv} {m:Nat}
end
end Go.Proofs.YtdnacpbgodooaaaGreatDoor
namespace Go.Proofs.YtdnacpbgodooaaaGreatDoor
open Go.RowKit
section
variable {all:List (List UInt8)} {C:Ct} {D:List (List UInt8)} {k:Nat} {S:List Int} {E:Dv} {m:Nat} {A:Ar}
end
end Go.Proofs.YtdnacpbgodooaaaGreatDoor
namespace Go.Proofs.YtdnacpbgodooaaaGreatDoor
open Go.RowKit
theorem Z20:∀ (l m:List ByteArray),(l.Pairwise fun s t=>lss s t=true)->(m.Pairwise fun s t=>lss s t=true)->(∀ x,x∈l↔x∈m)->l=m
 | [],[],_,_,_=>rfl
 | [],b::m,_,_,h=>absurd ((h b).2 List.mem_cons_self) List.not_mem_nil
 | a::l,[],_,_,h=>absurd ((h a).1 List.mem_cons_self) List.not_mem_nil
 | a::l,b::m,hl,hm,h=>by
  rw[List.pairwise_cons] at hl hm;have no:∀ s t:ByteArray,lss s t=true->lss t s=true->False:=fun s t h1 h2=>by rw[lss_asym h1] at h2; cases h2
  have e:a=b:=by
   rcases List.mem_cons.1 ((h a).1 List.mem_cons_self) with e | e
   ·exact e
   ·rcases List.mem_cons.1 ((h b).2 List.mem_cons_self) with f | f
    ·exact f.symm
    ·exact absurd (hl.1 b f) (fun q=>no _ _ q (hm.1 a e))
  subst e;rw[Z20 l m hl.2 hm.2 fun x=>⟨fun hx=>?_,fun hx=>?_⟩]
  ·rcases List.mem_cons.1 ((h x).1 (List.mem_cons_of_mem _ hx)) with e | e
   ·have:=hl.1 x hx
    rw[e,WS] at this; cases this
   ·exact e
  ·rcases List.mem_cons.1 ((h x).2 (List.mem_cons_of_mem _ hx)) with e | e
   ·have:=hm.1 x hx
    rw[e,WS] at this; cases this
   ·exact e
section
variable {all:List (List UInt8)} {C:Ct} {D:List (List UInt8)} {G:List Fi} {k:Nat} {S:List Int} {E:Dv} {m:Nat} {A:Ar} {T:Nat->List Int}
theorem Holds.listed (h:Holds all C D G) (hs:G.Pairwise fun f g=>lss f.s g.s=true):namesE C.2=G.map fun f=>f.s:=by
 obtain⟨_,n2,n3⟩:=h.names;refine Z20 _ _ n3 (by rw[List.pairwise_map]; exact hs) fun x=>⟨fun hx=>?_,fun hx=>?_⟩
 ·obtain⟨y,hy,rfl⟩:=List.mem_map.1 hx
  obtain⟨f,hf,e⟩:=h.nms y hy;exact List.mem_map.2 ⟨f,hf,e⟩
 ·obtain⟨f,hf,rfl⟩:=List.mem_map.1 hx
  exact n2 f hf
end
end Go.Proofs.YtdnacpbgodooaaaGreatDoor
