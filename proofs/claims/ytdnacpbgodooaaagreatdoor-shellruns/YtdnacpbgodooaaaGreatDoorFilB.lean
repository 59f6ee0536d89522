import Derived.Test.YtdnacpbgodooaaaGreatDoorArcM
import Derived.Test.YtdnacpbgodooaaaGreatDoorOpens
import Derived.Shelf.Abstract
import Derived.Deep.DeepCutAuto
import Derived.Test.YtdnacpbgodooaaaGreatDoorCatNB
set_option maxHeartbeats 1600000
set_option maxRecDepth 4000
namespace Go.Proofs.YtdnacpbgodooaaaGreatDoor
open Go.RowKit Go.Lib
structure ZV (w:World) (a:Option Addr) (n:Nat) (F:List Fi):Prop where
 sn:n=F.length
 nb:n<=maxLen
 nm:∀ i,i<n->(fi F i).s.size<=maxLen∧(fi F i).d.size<=maxLen
 c:∀ i,i<n->∃ b o,a=some ⟨b,o,none⟩∧b<w.heap.size∧w.cell? ⟨b,o+i*2,none⟩=some (.string (fi F i).s)∧w.cell? ⟨b,o+i*2+1,none⟩=some (.string (fi F i).d)
section
variable {w w':World} {a:Option Addr} {n:Nat} {F:List Fi}
theorem ZV.below (h:ZV w a n F) (g:Below w.heap.size w w'):ZV w' a n F:=by
 refine⟨h.sn,h.nb,h.nm,fun i hi=>?_⟩
 obtain⟨b,o,e,hb,c0,c1⟩:=h.c i hi;exact⟨b,o,e,Nat.lt_of_lt_of_le hb g.size,(g.cell (p:=⟨b,o+i*2,none⟩) hb).trans c0,(g.cell (p:=⟨b,o+i*2+1,none⟩) hb).trans c1⟩
theorem Z19 (F:List Fi) (k i:Nat) (h:i<k):fi (F.take k) i=fi F i:=by simp[fi,h]
theorem ZV.take (h:ZV w a n F) (k:Nat) (hk:k<=n):ZV w a k (F.take k):=by
 refine⟨by rw[List.length_take,<- h.sn]; omega,Nat.le_trans hk h.nb,fun i hi=>?_,fun i hi=>?_⟩
 ·rw[Z19 F k i hi]; exact h.nm i (by omega)
 ·rw[Z19 F k i hi]; exact h.c i (by omega)
theorem filAt_none (w:World) (a:Option Addr):ZV w a 0 []:=⟨rfl,Nat.zero_le _,fun _ hi=>absurd hi (Nat.not_lt_zero _),fun _ hi=>absurd hi (Nat.not_lt_zero _)⟩
end
theorem Z4Z (F:List Fi) (s:ByteArray) (k j:Nat) (h:j<=k):hasF (F.take k) s j=hasF F s j:=by
 induction j with
 | zero=>rfl
 | succ j ih=>rw[hasF,hasF,ih (by omega),Z19 F k j (by omega)]
end Go.Proofs.YtdnacpbgodooaaaGreatDoor
namespace Go.Proofs.YtdnacpbgodooaaaGreatDoor
open Go.RowKit Go.Lib Go.Deep Go.ChangeShapes Go.WideShapes
section
variable {H:Type} {enc:TypeId × Value->H} {W:World}
end
end Go.Proofs.YtdnacpbgodooaaaGreatDoor
namespace Go.Proofs.YtdnacpbgodooaaaGreatDoor
open Go.RowKit Go.Lib
def idxF (F:List Fi) (p:Fi->Bool):Nat->Int
 | 0 => -1
 | k+1=>if 0<=idxF F p k then idxF F p k else if p (fi F k)=true then (k:Int) else -1
def anyF (F:List Fi) (p:Fi->Bool):Nat->Bool
 | 0=>false
 | k+1=>anyF F p k||p (fi F k)
theorem Z6D (F:List Fi) (p:Fi->Bool) (k:Nat):decide (0<=idxF F p k)=anyF F p k∧(idxF F p k<0->idxF F p k = -1):=by
 induction k with
 | zero=>exact⟨rfl,fun _=>rfl⟩
 | succ k ih=>
  rw[idxF,anyF,<- ih.1]
  by_cases h:0<=idxF F p k
  ·rw[if_pos h,decide_eq_true h]
   exact⟨rfl,fun q=>absurd q (by omega)⟩
  ·rw[if_neg h,decide_eq_false h]
   cases hp:p (fi F k) with
   | true=>rw[if_pos rfl]; exact⟨by simp,fun q=>absurd q (by omega)⟩
   | false=>rw[if_neg (by decide)]; exact⟨rfl,fun _=>rfl⟩
theorem Z4U (F:List Fi) (p:Fi->Bool) (k m:Nat) (h:0<=idxF F p k) (hm:k<=m):idxF F p m=idxF F p k:=by
 induction m with
 | zero=>
  obtain rfl:k=0:=by omega
  rfl
 | succ m ih=>
  by_cases e:k=m+1
  ·rw[e]
  ·rw[idxF,ih (by omega),if_pos h]
theorem Z6C (F:List Fi) (p:Fi->Bool) (k:Nat) (h:idxF F p k = -1) (hp:p (fi F k)=true) (m:Nat) (hm:k<m):idxF F p m=k:=by
 have e:idxF F p (k+1)=k:=by rw[idxF,h,if_neg (by omega),if_pos hp]
 rw[Z4U F p (k+1) m (by rw[e]; omega) hm,e]
theorem Z4V (F:List Fi) (p:Fi->Bool) (k:Nat) (h:idxF F p k = -1) (hp:p (fi F k)=false):idxF F p (k+1) = -1:=by rw[idxF,h,if_neg (by omega),hp]; rfl
theorem Z6I (F:List Fi) (s:ByteArray) (k:Nat):anyF F (fun x=>x.s.toList==s.toList) k=hasF F s k:=by
 induction k with
 | zero=>rfl
 | succ k ih=>rw[anyF,hasF,ih]
theorem Z3o (a:Option Addr) (n c:Nat) (F:List Fi) (p:Fi->Bool) (g:Nat) (lb:Array Value) (w:World) (H:ZV w a n F) (eg:∀ args w,(callFunc g args).run Tryz.prog w=.ok (.enter g args) w)
  (hc:∀ (x:Fi) wx,(x.s.size<=maxLen∧x.d.size<=maxLen)->Below w.heap.size w wx->Calls Tryz.prog g (#[.agg #[.string x.s,.string x.d]]++lb) wx fun e w'=>e=.returned (.bool (p x))∧Below wx.heap.size wx w'):
  Calls Tryz.prog 144 #[.slice a n c,.func (.func g) #[] lb] w fun e w'=>e=.returned (.int .i64 (idxF F p n))∧Below w.heap.size w w':=by
 have hnb:=H.nb;unfold maxLen at hnb;have CT:=hid hc;have HH:=hid H;clear H hc;go_enter Tryz.func144,Tryz.ntmps144
 go_wp2_with fail
 go_loopw [8] (fun i wr=>∃ k:Nat,k<=n∧i=.int .i64 k∧Hid (idxF F p k = -1)∧Hid (Below w.heap.size w wr)) (fun i _=>n-(RowKit.intOf i).toNat)
 case atStart=>exact⟨0,Nat.zero_le _,rfl,rfl,Below.refl _ _⟩
 case round=>
  obtain⟨k,hk,rfl,h0,G⟩:=hrel
  by_cases hlt:k<n
  ·have hlt':(k:Int)<n:=by omega
   obtain⟨b,o,rfl,hb,x0,x1⟩:=(HH.out.below G.out).c k hlt;have C1:=hid (CT.out (fi F k) wr (HH.out.nm k hlt) G.out);have HIT:=hid (fun he=>Z6C F p k h0.out he n hlt)
   have MISS:=hid (fun he=>Z4V F p k h0.out he)
   generalize p (fi F k)=r at C1 HIT MISS;cases r with
   | true=>
    have R:=hid (HIT.out rfl);clear HIT MISS CT HH;go_wp2_with fail
    go_at_fn g
    refine C1.out.mono ?_
    rintro _ w5 ⟨rfl,g5⟩;go_wp2
    go_ret
    exact⟨ret_int (by rw[R.out]),G.out.trans (g5.mono G.out.size)⟩
   | false=>
    have R:=hid (MISS.out rfl);clear HIT MISS CT HH;go_wp2_with fail
    go_at_fn g
    refine C1.out.mono ?_
    rintro _ w5 ⟨rfl,g5⟩;go_wp2
    go_roundw
    case rel=>exact⟨k+1,by omega,by go_num,R,hid (G.out.trans (g5.mono G.out.size))⟩
    case measure=>simp[RowKit.intOf]; omega
  ·obtain rfl:k=n:=by omega
   have hlt':¬ (k:Int)<k:=by omega
   go_wp2
   go_ret
   exact⟨ret_int (by rw[h0.out]),G.out⟩
theorem Vk (a:Option Addr) (n c:Nat) (F:List Fi) (p:Fi->Bool) (g:Nat) (lb:Array Value) (w:World) (H:ZV w a n F) (eg:∀ args w,(callFunc g args).run Tryz.prog w=.ok (.enter g args) w)
  (hc:∀ (x:Fi) wx,(x.s.size<=maxLen∧x.d.size<=maxLen)->Below w.heap.size w wx->Calls Tryz.prog g (#[.agg #[.string x.s,.string x.d]]++lb) wx fun e w'=>e=.returned (.bool (p x))∧Below wx.heap.size wx w'):
  Calls Tryz.prog 85 #[.slice a n c,.func (.func g) #[] lb] w fun e w'=>e=.returned (.bool (anyF F p n))∧Below w.heap.size w w':=by
 have C1:=hid (Z3o a n c F p g lb w H eg hc);have HR:=hid (Z6D F p n).1;clear hc H;generalize idxF F p n=r at C1 HR;generalize anyF F p n=t at HR;go_enter Tryz.func85,Tryz.ntmps85
 go_wp2_with fail
 refine C1.out.mono ?_
 rintro _ w5 ⟨rfl,g5⟩;go_wp2
 go_ret
 exact⟨by rw[<- HR.out]; rfl,g5⟩
end Go.Proofs.YtdnacpbgodooaaaGreatDoor
namespace Go.Proofs.YtdnacpbgodooaaaGreatDoor
open Go.RowKit Go.Lib
theorem Z00 (a:Option Addr) (n c:Nat) (F:List Fi) (g:Nat) (lb:Array Value) (w:World) (I:Nat->World->Prop) (Out:Int->World->Prop) (hnc:n<=c) (eg:∀ args w,(callFunc g args).run Tryz.prog w=.ok (.enter g args) w)
  (hI:∀ k wx,I k wx->ZV wx a n F) (hg:∀ k wx w',I k wx->Below wx.heap.size wx w'->I k w')
  (hcall:∀ k wx,k<n->I k wx->Calls Tryz.prog g (#[.slice a k c,.agg #[.string (fi F k).s,.string (fi F k).d]]++lb) wx fun e w'=>∃ x:Int,e=.returned (.int .i64 x)∧(x=0->I (k+1) w')∧(x≠0->Out x w'))
  (h0:I 0 w):
  Calls Tryz.prog 82 #[.slice a n c,.func (.func g) #[] lb] w fun e w'=>∃ x:Int,e=.returned (.int .i64 x)∧(x=0->I n w')∧(x≠0->Out x w'):=by
 have hnb:=(hI 0 w h0).nb;unfold maxLen at hnb;have CT:=hid hcall;have HI:=hid hI;have HG:=hid hg;have H0:=hid h0;clear hI hg hcall h0;go_enter Tryz.func82,Tryz.ntmps82
 go_wp2_with fail
 go_loopw [10] (fun i wr=>∃ k:Nat,k<=n∧i=.int .i64 k∧Hid (I k wr)) (fun i _=>n-(RowKit.intOf i).toNat)
 case atStart=>exact⟨0,Nat.zero_le _,rfl,H0⟩
 case round=>
  obtain⟨k,hk,rfl,G⟩:=hrel;clear H0
  by_cases hlt:k<n
  ·have hlt':(k:Int)<n:=by omega
   have hkc:(k:Int)<=c:=by omega
   have hk0:(0:Int)<=k:=by omega
   obtain⟨b,o,rfl,hb,x0,x1⟩:=(HI.out k wr G.out).c k hlt;have C1:=hid (fun wx (g:Below wr.heap.size wr wx)=>CT.out k wx hlt (HG.out k wr wx G.out g))
   clear CT HI HG G;generalize (fi F k).s=s at x0 C1;generalize (fi F k).d=d at x1 C1;go_wp2_with fail
   go_region_with (go_at_fn g; refine (C1.out _ (by go_grown)).mono ?_; rintro _ w5 ⟨x,rfl,h1,h2⟩)
   all_goals
    have K1:=hid h1;have K2:=hid h2;clear h1 h2 C1
    by_cases hx:x=0
    ·subst hx
     have e0:((0:Int) != 0)=false:=rfl;go_wp2
     go_roundw
     case rel=>exact⟨k+1,by omega,by go_num,hid (K1.out rfl)⟩
     case measure=>simp[RowKit.intOf]; omega
    ·have e0:(x != 0)=true:=by rw[bne_iff_ne]; exact hx
     have HX:=hid hx;clear hx;go_wp2
     go_ret
     exact⟨x,rfl,fun q=>absurd q HX.out,fun _=>K2.out HX.out⟩
  ·obtain rfl:k=n:=by omega
   have hlt':¬ (k:Int)<k:=by omega
   go_wp2
   go_ret
   exact⟨0,rfl,fun _=>G.out,fun q=>absurd rfl q⟩
end Go.Proofs.YtdnacpbgodooaaaGreatDoor
namespace Go.Proofs.YtdnacpbgodooaaaGreatDoor
open Go.RowKit Go.Lib
theorem Z3m (x:Fi) (q:Nat) (s:ByteArray) (w:World) (hq:w.cell? ⟨q,0,none⟩=some (.string s)):
  Calls Tryz.prog 143 #[.agg #[.string x.s,.string x.d],.pointer (some ⟨q,0,none⟩)] w fun e w'=>e=.returned (.bool (x.s.toList==s.toList))∧Below w.heap.size w w':=by
 have hl:q<w.heap.size:=YL hq;go_enter Tryz.func143,Tryz.ntmps143
 go_wp2
 go_ret
 exact⟨rfl,by go_grown⟩
def fileV (s d:ByteArray) (h:Bool):Int:=if nameMay s=true then (if 200<d.size then 1 else if h=true then 7 else 0) else 4
theorem Z58 (F:List Fi) (k:Nat):fileV (fi F k).s (fi F k).d (hasF F (fi F k).s k)=filOne F k:=rfl
theorem QE (a:Option Addr) (n c:Nat) (F:List Fi) (s d:ByteArray) (w:World) (H:ZV w a n F) (hd:d.size<=maxLen):
  Calls Tryz.prog 84 #[.slice a n c,.agg #[.string s,.string d]] w fun e w'=>e=.returned (.int .i64 (fileV s d (hasF F s n)))∧Below w.heap.size w w':=by
 obtain⟨W,hW⟩:∃ W,W=w.alloc (.cells #[.string s,.string d] 113):=⟨_,rfl⟩;have hB:Below w.heap.size w W:=by rw[hW]; go_grown
 have hz:W.heap.size=w.heap.size+1:=by rw[hW]; simp
 have c0:W.cell? ⟨w.heap.size,0,none⟩=some (.string s):=by rw[hW]; simp
 have CN:=hid (fun wx=>Z1X s wx)
 have CH:=hid (Vk a n c F (fun x=>x.s.toList==s.toList) 143 #[.pointer (some ⟨w.heap.size,0,none⟩)] W (H.below hB) (enters_of Tryz.func143 (by kernel_rfl) rfl) (fun x wx _ g=>Z3m x w.heap.size s wx ((g.cell (p:=⟨w.heap.size,0,none⟩) (by show w.heap.size<W.heap.size; omega)).trans c0)))
 rw[Z6I] at CH;unfold fileV;have HP:=hid (And.intro hB hW);rw[hW] at CH;unfold maxLen at hd;clear H hB hz c0 hW;generalize nameMay s=r at CN;generalize hasF F s n=h at CH;cases r with
 | false=>
  go_enter Tryz.func84,Tryz.ntmps84
  go_wp2_with (go_at_call 142; refine (CN.out _).mono ?_; rintro _ w9 ⟨rfl,h9⟩; (have h8:=h9.symm); subst h8)
  go_ret
  exact⟨rfl,by go_grown⟩
 | true=>
  rw[if_pos rfl]
  by_cases h2:200<d.size
  ·have h2':(200:Int)<d.size:=by omega
   rw[if_pos h2];go_enter Tryz.func84,Tryz.ntmps84
   go_wp2_with (go_at_call 142; refine (CN.out _).mono ?_; rintro _ w9 ⟨rfl,h9⟩; (have h8:=h9.symm); subst h8)
   go_ret
   exact⟨rfl,by go_grown⟩
  ·have h2':¬ (200:Int)<d.size:=by omega
   rw[if_neg h2];cases h with
   | true=>
    go_enter Tryz.func84,Tryz.ntmps84
    go_wp2_with (go_at_call 142; refine (CN.out _).mono ?_; rintro _ w9 ⟨rfl,h9⟩; (have h8:=h9.symm); subst h8)
    refine CH.out.mono ?_
    rintro _ w5 ⟨rfl,g5⟩;rw[<- HP.out.2] at g5;go_wp2
    go_ret
    exact⟨rfl,HP.out.1.trans (g5.mono HP.out.1.size)⟩
   | false=>
    go_enter Tryz.func84,Tryz.ntmps84
    go_wp2_with (go_at_call 142; refine (CN.out _).mono ?_; rintro _ w9 ⟨rfl,h9⟩; (have h8:=h9.symm); subst h8)
    refine CH.out.mono ?_
    rintro _ w5 ⟨rfl,g5⟩;rw[<- HP.out.2] at g5;go_wp2
    go_ret
    exact⟨rfl,HP.out.1.trans (g5.mono HP.out.1.size)⟩
theorem Vv {w:World} {p q:Addr} {x y:Value} (h:w.cell? q=some x) (hp:w.cell? p=some y) (hne:x≠y) (v:Value):(w.setCell p v).cell? q=some x:=by
 rw[World.cell?_setCell_other]
 ·exact h
 ·intro e
  rw[<- e,hp] at h;exact hne (Option.some.inj h).symm
theorem ZV.keep {w:World} {a:Option Addr} {n:Nat} {F:List Fi} (h:ZV w a n F) {p:Addr} {k:Int} (hp:w.cell? p=some (.int .i64 k)) (v:Value):ZV (w.setCell p v) a n F:=by
 refine⟨h.sn,h.nb,h.nm,fun i hi=>?_⟩
 obtain⟨b,o,e,hb,c0,c1⟩:=h.c i hi;exact⟨b,o,e,by simpa[World.setCell] using hb,Vv c0 hp (by simp) v,Vv c1 hp (by simp) v⟩
theorem Z0A (a:Option Addr) (n c:Nat) (F:List Fi) (s d:ByteArray) (p:Nat) (S:Int) (w:World) (H:ZV w a n F) (hd:d.size<=maxLen) (hp:Own w p 3 [.int .i64 S]) (V:Int) (hV:IntKind.i64.wrap (S+(d.size:Int))=V):
  Calls Tryz.prog 83 #[.slice a n c,.agg #[.string s,.string d],.pointer (some ⟨p,0,none⟩)] w fun e w'=>e=.returned (.int .i64 (fileV s d (hasF F s n)))∧Own w' p 3 [.int .i64 V]∧Chg (fun k=>k=p) w w':=by
 obtain⟨W,hW⟩:∃ W,W=w.alloc (.cells #[.string s,.string d] 113):=⟨_,rfl⟩;have hB:Below w.heap.size w W:=by rw[hW]; go_grown
 have hl:=hp.lt;have hpW:=hp.below' hB;have c0:=hpW.cell (i:=0) rfl;have f0:=hpW.free 0;have HW:=(H.below hB).keep c0 (.int .i64 V);have k0:(W.setCell ⟨p,0,none⟩ (.int .i64 V)).cell? ⟨w.heap.size,0,none⟩=some (.string s):=Vv (by rw[hW]; simp) c0 (by simp) _
 have k1:(W.setCell ⟨p,0,none⟩ (.int .i64 V)).cell? ⟨w.heap.size,1,none⟩=some (.string d):=Vv (by rw[hW]; simp) c0 (by simp) _
 have m0:W.cell? ⟨w.heap.size,1,none⟩=some (.string d):=by rw[hW]; simp
 have OW:=hpW.set (i:=0) (by simp) (.int .i64 V)
 have GW:Chg (fun k=>k=p) w (W.setCell ⟨p,0,none⟩ (.int .i64 V)):=(chg_below (fun k=>k=p) hB).set (p:=p) rfl 0 _
 have CC:=hid (QE a n c F s d _ HW hd);have HP:=hid (And.intro OW GW);unfold maxLen at hd;clear H HW hB hp hpW OW GW;generalize fileV s d (hasF F s n)=R at CC;go_enter Tryz.func83,Tryz.ntmps83
 go_upto_region 1 with fail
 rw[<- hW];clear hW;go_wp2_with fail
 refine CC.out.mono ?_
 rintro _ w5 ⟨rfl,g5⟩;go_wp2
 go_ret
 exact⟨rfl,HP.out.1.below' g5,HP.out.2.to g5⟩
structure FilI (w:World) (a:Option Addr) (n:Nat) (F:List Fi) (p k:Nat) (wx:World):Prop where
 fil:ZV w a n F
 box:Own wx p 3 [.int .i64 (sumF F k)]
 ok:filN F k=0
 new:w.heap.size<=p
 below:Below w.heap.size w wx
theorem Z7u (F:List Fi) (k:Nat) (h:filN F k=0):sumF F k<=200*k:=by
 have q:∀ j,j<=k->sumF F j<=200*j:=by
  intro j
  induction j with
  | zero=>intro _; exact Nat.zero_le _
  | succ j ih=>
   intro hj;have h1:=ih (by omega)
   have h2:=(Vj F j (Z59 F k h j (by omega))).2.1
   rw[sumF]; omega
 exact q k (Nat.le_refl _)
theorem To (a:Option Addr) (n c:Nat) (F:List Fi) (w:World) (H:ZV w a n F) (hc:n<=c):
  Calls Tryz.prog 42 #[.slice a n c] w fun e w'=>e=.returned (.int .i64 (filChk F))∧Below w.heap.size w w':=by
 have hsn:=H.sn;have hnb:=H.nb;unfold maxLen at hnb;unfold filChk;rw[<- hsn]
 by_cases h1:n<1
 ·have h1':(n:Int)<1:=by omega
  rw[if_neg (by omega)]
  clear H hsn;go_enter Tryz.func42,Tryz.ntmps42
  go_wp2
  go_ret
  exact⟨rfl,Below.refl _ _⟩
 ·have h1':¬ (n:Int)<1:=by omega
  by_cases h10:10<n
  ·have h10':(10:Int)<n:=by omega
   rw[if_neg (by omega)]
   clear H hsn;go_enter Tryz.func42,Tryz.ntmps42
   go_wp2
   go_ret
   exact⟨rfl,Below.refl _ _⟩
  ·have h10':¬ (10:Int)<n:=by omega
   rw[if_pos (by omega)]
   obtain⟨T,hT⟩:∃ T:Int,T=if filN F n=0 then (if 600<sumF F n then 1 else 0) else filN F n:=⟨_,rfl⟩
   rw[<- hT];have HT:=hid hT;clear hT;obtain⟨W,hW⟩:∃ W,W=w.alloc (.cells #[.int .i64 0] 3):=⟨_,rfl⟩;have hB:Below w.heap.size w W:=by rw[hW]; go_grown
   have hI:FilI w a n F w.heap.size 0 W:=⟨H,by rw[hW]; exact Own.made w _ [.int .i64 0],rfl,Nat.le_refl _,hB⟩
   have CL:=Z00 a n c F 83 #[.pointer (some ⟨w.heap.size,0,none⟩)] W (FilI w a n F w.heap.size) (fun x wx=>x=filN F n∧Below w.heap.size w wx) hc (enters_of Tryz.func83 (by kernel_rfl) rfl)
    (fun k wx h=>h.fil.below h.below) (fun k wx w' h g=>⟨h.fil,h.box.below' g,h.ok,h.new,h.below.trans (g.mono h.below.size)⟩)
    (fun k wx hk h=>by
     have hs:=Z7u F k h.ok;refine (Z0A a k c (F.take k) (fi F k).s (fi F k).d w.heap.size (sumF F k) wx ((h.fil.below h.below).take k (by omega)) (H.nm k hk).2 h.box _ rfl).mono ?_
     rintro e w' ⟨rfl,h2,h3⟩;rw[Z4Z F _ k k (Nat.le_refl _),Z58];refine⟨filOne F k,rfl,fun q=>?_,fun q=>⟨(Z2c F k h.ok q n hk).symm,?_⟩⟩
     ·have hd:=(Vj F k q).2.1
      rw[IntWalk.i64_in _ (by omega)] at h2
      exact⟨h.fil,by rw[sumF]; simpa using h2,by rw[Uh F k h.ok]; exact q,h.new,h.below.trans (h3.below h.below.size (fun j hj=>by omega))⟩
     ·exact h.below.trans (h3.below h.below.size (fun j hj=>by omega))) hI
   have HL:=hid CL;have HW:=hid hW;rw[hW] at HL;clear CL hI hB hW H hsn;have hs0:(0:Int)<=sumF F n:=by omega
   go_enter Tryz.func42,Tryz.ntmps42
   go_wp2_with fail
   refine HL.out.mono ?_
   rintro _ w5 ⟨x,rfl,k1,k2⟩
   by_cases hx:x=0
   ·subst hx
    have e0:((0:Int) != 0)=false:=rfl;have K:=k1 rfl;have x0:=K.box.cell (i:=0) rfl;have KO:=hid K.ok;have KB:=hid K.below;clear k1 k2 K HL
    by_cases h6:600<sumF F n
    ·have h6':(600:Int)<sumF F n:=by omega
     go_wp2
     go_ret
     exact⟨by rw[HT.out,if_pos KO.out,if_pos h6]; rfl,KB.out⟩
    ·have h6':¬ (600:Int)<sumF F n:=by omega
     go_wp2
     go_ret
     exact⟨by rw[HT.out,if_pos KO.out,if_neg h6]; rfl,KB.out⟩
   ·have e0:(x != 0)=true:=by rw[bne_iff_ne]; exact hx
    have K:=hid (k2 hx);have HX:=hid hx;clear k1 k2 HL hx;go_wp2
    go_ret
    obtain⟨q1,q2⟩:=K.out;exact⟨by rw[HT.out,<- q1,if_neg HX.out]; rfl,q2⟩
end Go.Proofs.YtdnacpbgodooaaaGreatDoor
