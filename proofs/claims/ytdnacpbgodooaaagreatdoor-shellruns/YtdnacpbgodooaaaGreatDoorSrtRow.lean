import Derived.Test.YtdnacpbgodooaaaGreatDoorShelfSort
import Derived.Test.YtdnacpbgodooaaaGreatDoorShelfCmp
import Derived.Test.YtdnacpbgodooaaaGreatDoorArcM
import Derived.Test.YtdnacpbgodooaaaGreatDoorMem2
set_option maxHeartbeats 1000000
namespace Go.Proofs.YtdnacpbgodooaaaGreatDoor
open Go.RowKit Go.Lib Go.Sort Go.Shelf
def cmpE (x y:En):Int:=Lib.compareBytes x.s.data.toList y.s.data.toList
theorem ltE (x y:En):ltOf cmpE x y=lss x.s y.s:=by
 unfold ltOf cmpE lss;rw[Z2o,ByteArray.toList_eq,ByteArray.toList_eq]
theorem swoE:SWO (ltOf cmpE) where
 irrefl x:=by rw[ltE]; exact WS _
 trans x y z h1 h2:=by rw[ltE] at *; exact Wd h1 h2
 ntrans x y z h1 h2:=by
  rw[ltE] at *;cases h:lss x.s z.s with
  | false=>rfl
  | true=>
   cases h3:lss y.s x.s with
   | true=>have:=Wd h3 h; rw[h2] at this; cases this
   | false=>
    have e:=Qp h1 h3;rw[e,h2] at h; cases h
theorem Tn (x y:En) (W:World):Calls Tryz.prog 149 #[.agg #[.string x.s,.int .i64 x.b,.int .i64 x.a,.int .i64 x.n],.agg #[.string y.s,.int .i64 y.b,.int .i64 y.a,.int .i64 y.n]] W fun e w'=>e=.returned (.int .i64 (cmpE x y))∧∃ q os',w'=grow (W.drewN q) os':=by
 have hcon:=hid (fun W'=>Tryz.strings_Compare x.s y.s W')
 obtain⟨r,hr⟩:∃ r,cmpE x y=r:=⟨_,rfl⟩;rw[hr];unfold cmpE at hr;rw[hr] at hcon;clear hr;go_enter Tryz.func149,Tryz.ntmps149
 go_wp2_with (go_at_call 150; refine (hcon.out _).mono ?_; rintro e w' ⟨rfl,h9⟩; (have h8:=h9.symm); subst h8)
 go_ret
 exact⟨rfl,0,_,by rw[alloc_eq_grow,alloc_eq_grow,grow_grow]; rfl⟩
theorem Z70 [Inhabited En] (blk off size:Nat) (w:World):CmpLays Tryz.prog 149 #[] entC 4 cmpE blk off size w:=fun _ _ _ _ x y=>Tn x y _
theorem Z82 [Inhabited En] (E:List En) (j:Nat) (h:j<E.length*4):some (flatK entC 4 E.toArray)[j]! = (entV E)[j]?:=by
 rw[get_flatK _ _ _ _ (by simpa using h)]
 have hi:j / 4<E.length:=by omega
 have e:E.toArray[j / 4]! = en E (j / 4):=by rw[YS E _ hi]; simp[hi]
 rw[e];obtain⟨a0,a1,a2,a3⟩:=Wg E (j / 4) hi;have h4:j % 4<4:=by omega
 have hj:j=j / 4*4+j % 4:=by omega
 generalize j / 4=q at *;generalize j % 4=r at *;subst hj
 match r,h4 with
 | 0,_=>rw[Nat.add_zero,a0]; rfl
 | 1,_=>rw[a1]; rfl
 | 2,_=>rw[a2]; rfl
 | 3,_=>rw[a3]; rfl
theorem Z4s [Inhabited En] {w:World} {b:Nat} {E:List En} (h:Own w b 95 (entV E)):HoldsK entC 4 w b 0 E.toArray:=by
 intro j hj;rw[size_flatK] at hj;have hj':j<E.length*4:=by simpa using hj
 refine⟨?_,h.free _⟩
 rw[Nat.zero_add];exact h.cell (i:=j) (Z82 E j hj').symm
theorem Z4X [Inhabited En] {w:World} {b:Nat} {d:Array En} (h:HoldsK entC 4 w b 0 d) (hb:b<w.heap.size) (hn:d.size<=maxLen) (hs:∀ i,i<d.size->(en d.toList i).s.size<=maxLen):YT w (some ⟨b,0,none⟩) d.size d.toList:=by
 refine⟨by simp,hn,hs,fun i hi=>⟨b,0,rfl,hb,?_,?_,?_,?_⟩⟩
 all_goals
  have e:d[i]! = en d.toList i:=by rw[YS _ i (by simpa using hi)]; simp[hi]
 ·have:=(h.cell (i:=i) (c:=0) hi (by omega)).1; rw[e] at this; exact this
 ·have:=(h.cell (i:=i) (c:=1) hi (by omega)).1; rw[e] at this; exact this
 ·have:=(h.cell (i:=i) (c:=2) hi (by omega)).1; rw[e] at this; exact this
 ·have:=(h.cell (i:=i) (c:=3) hi (by omega)).1; rw[e] at this; exact this
theorem sort_chg [Inhabited En] (w:World) (b q:Nat) (d:Array En) (os:Array Obj):Chg (fun k=>k=b) w (sortWorldK entC 4 w b 0 q d os):=by
 refine⟨rfl,rfl,rfl,size_sortWorldK_c entC 4 w b 0 q d os,fun k hk hp=>?_⟩
 show ((w.heap.modify b _)++os)[k]?=_
 rw[Array.getElem?_append_left (by simpa using hk),Array.getElem?_modify,if_neg (fun e=>hp e.symm)]
def Sorted (w:World) (b:Nat) (E:List En) (w':World):Prop:=∃ E':List En,E'.Perm E∧(E'.Pairwise fun x y=>lss y.s x.s=false)∧YT w' (some ⟨b,0,none⟩) E.length E'∧Chg (fun k=>k=b) w w'
theorem Tg (b cap:Nat) (E:List En) (w:World) (h:Own w b 95 (entV E)) (hl:E.length<=1000) (hs:∀ x∈E,x.s.size<=maxLen):
  Calls Tryz.prog 95 #[.slice (some ⟨b,0,none⟩) E.length cap] w fun e w'=>e=.returned (.tuple #[])∧Sorted w b E w':=by
 have:Inhabited En:=⟨nilE⟩
 have eg:∀ args w,(callFunc 149 args).run Tryz.prog w=.ok (.enter 149 args) w:=enters_of Tryz.func149 (by kernel_rfl) rfl
 have hH:=Z4s h;have hcon:=AnyQ.slices_SortFunc Tryz.laysSort 4 Tryz.isAgg95 Tryz.sizeOf95 entC (fun _=>rfl) WQ cmpE swoE 149 #[] b 0 cap E.toArray w eg (Z70 b 0 _ w) hH h.lt (by simp; omega)
 have HC:Hid (Calls Tryz.prog 148 #[.slice (some ⟨b,0,none⟩) E.length cap,.func (.func 149) #[] #[]] w fun e w'=>e=.returned (.tuple #[])∧Sorted w b E w'):=by
  refine Calls.mono hcon ?_
  rintro e w' ⟨rfl,d',q,os,hp,hsr,rfl⟩;refine⟨rfl,d'.toList,?_,?_,?_,sort_chg w b q d' os⟩
  ·have:=hp.2.2
   rw[show d'.extract 0 E.toArray.size=d' by rw[<- hp.1]; simp] at this
   simpa using this
  ·refine List.pairwise_iff_getElem.2 fun i j hi hj hij=>?_
   have e:=hsr i j (Nat.zero_le _) hij (by rw[<- hp.1]; simpa using hj)
   rw[ltE] at e;have hi':i<d'.size:=by simpa using hi
   have hj':j<d'.size:=by simpa using hj
   rw[getElem!_pos d' i hi',getElem!_pos d' j hj'] at e
   simpa using e
  ·have hz:d'.size=E.length:=by rw[hp.1]; simp
   have hpm:d'.toList.Perm E:=by
    have:=hp.2.2
    rw[show d'.extract 0 E.toArray.size=d' by rw[<- hp.1]; simp] at this
    simpa using this
   have:=Z4X (holdsK_sortWorldK_c entC 4 w b 0 E.toArray d' q os hH h.lt hp.1) (Nat.lt_of_lt_of_le h.lt (size_sortWorldK_c entC 4 w b 0 q d' os)) (by rw[hz]; unfold maxLen; omega) (fun i hi=>by
    rw[YS _ i (by simpa using hi)]
    exact hs _ (hpm.mem_iff.1 (List.getElem_mem _)))
   rw[hz] at this;exact this
 clear hcon hH h;go_enter Tryz.func95,Tryz.ntmps95
 go_wp2_with (go_at_call 148; refine HC.out.mono ?_; rintro e w' ⟨rfl,h9⟩)
 go_end0
 exact⟨rfl,h9⟩
end Go.Proofs.YtdnacpbgodooaaaGreatDoor
