import Derived.Test.YtdnacpbgodooaaaGreatDoorMem
import Derived.Test.YtdnacpbgodooaaaGreatDoorShelf
import Derived.Handy
set_option maxHeartbeats 1600000
namespace Go.Proofs.YtdnacpbgodooaaaGreatDoor
open Go.RowKit Go.Lib
theorem Z6x (w:World):PredAt Tryz.prog 163 #[] Value.string (fun s=>!(s.size==30)) w:=fun W x _=>by
 show Calls Tryz.prog 163 #[.string x] W _
 have hq:((x.size:Int) != 30)=!(x.size==30):=by
  rw[Bool.eq_iff_iff]; simp; omega
 go_enter Tryz.func163,Tryz.ntmps163
 go_wp2
 go_ret
 exact⟨rfl,0,rfl⟩
theorem Z1o (a:Option Addr) (n c:Nat) (a':Option Addr) (m c':Nat) (w:World) (h:n<1∨64<n∨m≠n):
  Calls Tryz.prog 109 #[.agg #[.slice a n c,.slice a' m c']] w fun e w'=>e=.returned (.int .i64 9)∧Below w.heap.size w w':=by
 by_cases h1:(n:Int)<1
 ·clear h
  go_enter Tryz.func109,Tryz.ntmps109
  go_wp2
  go_ret
  exact⟨rfl,by go_grown⟩
 ·by_cases h2:(64:Int)<n
  ·clear h
   go_enter Tryz.func109,Tryz.ntmps109
   go_wp2
   go_ret
   exact⟨rfl,by go_grown⟩
  ·have h3:((m:Int) != n)=true:=by
    rw[bne_iff_ne]; omega
   clear h;go_enter Tryz.func109,Tryz.ntmps109
   go_wp2
   go_ret
   exact⟨rfl,by go_grown⟩
theorem any_len (S:List ByteArray):(S.any fun s=>!(s.size==30))=!(S.all fun s=>s.size==30):=by
 rw[List.not_all_eq_any_not]
theorem T1 (a:Option Addr) (n c:Nat) (a':Option Addr) (m c':Nat) (D:Dv) (w:World) (h:Zc w a n a' m D):
  Calls Tryz.prog 109 #[.agg #[.slice a n c,.slice a' m c']] w fun e w'=>e=.returned (.int .i64 (UW D))∧Below w.heap.size w w':=by
 by_cases hs:n<1∨64<n∨m≠n
 ·have e:UW D=9:=by
   unfold UW;rw[if_neg];intro hm
   have:=((ZG D).1 hm).1
   rw[<- h.sn,<- h.sm] at this;omega
  rw[e];exact Z1o a n c a' m c' w hs
 ·have h1:¬ (n:Int)<1:=by omega
  have h2:¬ (64:Int)<n:=by omega
  have h3:((m:Int) != n)=false:=by rw[bne_eq_false_iff_eq]; omega
  obtain⟨b,o,rfl,hb,_⟩:=h.sector 0 (by omega)
  have hW:∀ wx,Below w.heap.size w wx->Calls Tryz.prog 162 #[.slice (some ⟨b,o,none⟩) n c,.func (.func 163) #[] #[]] wx fun e w'=>e=.returned (.bool (!(D.1.all fun s=>s.size==30)))∧∃ q,w'=wx.drewN q:=fun wx hx=>by
   have hh:=h.below hx
   have:=Tryz.slices_ContainsFunc Value.string (fun s=>!(s.size==30)) 163 #[] (enters_of Tryz.func163 (by kernel_rfl) rfl) b o n c D.1 wx (Z6x wx) (by rw[h.sn]; exact Nat.le_refl _) (by omega) (fun j hj=>by
    obtain⟨b2,o2,e2,_,hc⟩:=hh.sector j (by rw[h.sn]; exact hj)
    cases e2
    rw[hc,sec_lt D j hj];simp[hj])
   rw[h.sn,List.take_length,any_len,<- h.sn] at this;exact this
  have hl:(1<=D.1.length∧D.1.length<=64∧D.2.length=D.1.length):=by rw[<- h.sn,<- h.sm]; omega
  have e:UW D=if (D.1.all fun s=>s.size==30)=true then 0 else 9:=by
   unfold UW dvMay;rw[decide_eq_true hl,Bool.true_and]
  rw[e];generalize (D.1.all fun s=>s.size==30)=r at hW
  clear hs h hl e;have HW:=hid hW;clear hW;cases r with
  | true=>
   go_enter Tryz.func109,Tryz.ntmps109
   go_wp2_with fail
   refine (HW.out _ (by go_grown)).mono ?_
   rintro _ _ ⟨rfl,q,rfl⟩;go_wp2
   go_ret
   exact⟨rfl,below_drewN ((Below.refl _ _).alloc (Nat.le_refl _) _) q⟩
  | false=>
   go_enter Tryz.func109,Tryz.ntmps109
   go_wp2_with fail
   refine (HW.out _ (by go_grown)).mono ?_
   rintro _ _ ⟨rfl,q,rfl⟩;go_wp2
   go_ret
   exact⟨rfl,below_drewN ((Below.refl _ _).alloc (Nat.le_refl _) _) q⟩
end Go.Proofs.YtdnacpbgodooaaaGreatDoor
namespace Go.Proofs.YtdnacpbgodooaaaGreatDoor
open Go.RowKit Go.Lib
theorem Z5k (w:World) (d1 d2:Value):Below w.heap.size w (w.alloc (.cells #[d1,d2] 56))∧(w.alloc (.cells #[d1,d2] 56)).heap.size=w.heap.size+1 ∧
  (w.alloc (.cells #[d1,d2] 56)).cell? ⟨w.heap.size,0,none⟩=some d1∧(w.alloc (.cells #[d1,d2] 56)).cell? ⟨w.heap.size,1,none⟩=some d2:=
 ⟨(Below.refl _ w).alloc (Nat.le_refl _) _,by simp,by simp,by simp⟩
theorem Z23 (a:Option Addr) (n c:Nat) (a':Option Addr) (m c':Nat) (i:Int) (fv:Value) (D:Dv) (w:World) (h:Zc w a n a' m D) (ht:dvTouch D i≠0):
  Calls Tryz.prog 106 #[.agg #[.slice a n c,.slice a' m c'],.int .i64 i,fv] w fun e w'=>e=.returned (.int .i64 (dvTouch D i))∧Below w.heap.size w w':=by
 obtain⟨hB,hz,c0,c1⟩:=Z5k w (.slice a n c) (.slice a' m c');have hC:=T1 a n c a' m c' D _ (h.below hB);have HB:=hid (And.intro hB (And.intro hz c0));clear hB hz c0 c1;unfold dvTouch at ht ⊢;unfold UW at hC;rw[<- h.sn] at ht ⊢;clear h;generalize dvMay D=r at hC ht;cases r with
 | false=>
  rw[if_neg (by decide)] at hC ⊢
  have HC:=hid hC;clear hC ht;go_enter Tryz.func106,Tryz.ntmps106
  go_wp2_with fail
  refine HC.out.mono ?_
  rintro _ w1 ⟨rfl,g1⟩;go_wp2
  go_ret
  exact⟨rfl,HB.out.1.trans (g1.mono HB.out.1.size)⟩
 | true=>
  rw[if_pos rfl] at hC ht ⊢;have hin:¬ (0<=i∧i<n):=fun hh=>by rw[if_pos hh] at ht; exact ht rfl
  rw[if_neg hin];have HC:=hid hC;clear hC ht
  by_cases h0:i<0
  ·clear hin
   go_enter Tryz.func106,Tryz.ntmps106
   go_wp2_with fail
   refine HC.out.mono ?_
   rintro _ w1 ⟨rfl,g1⟩;go_wp2
   go_ret
   exact⟨rfl,HB.out.1.trans (g1.mono HB.out.1.size)⟩
  ·have h1:(n:Int)<=i:=by omega
   clear hin;go_enter Tryz.func106,Tryz.ntmps106
   go_wp2_with fail
   refine HC.out.mono ?_
   rintro _ w1 ⟨rfl,g1⟩;have hc1:w1.cell? ⟨w.heap.size,0,none⟩=some (.slice a n c):=(g1.cell (p:=⟨w.heap.size,0,none⟩) (by rw[HB.out.2.1]; exact Nat.lt_succ_self _)).trans HB.out.2.2
   go_wp2
   go_ret
   exact⟨rfl,HB.out.1.trans (g1.mono HB.out.1.size)⟩
theorem Z15 (a:Option Addr) (n c:Nat) (a':Option Addr) (m c':Nat) (k:Nat) (g:Nat) (lb:Array Value) (D:Dv) (w:World) (h:Zc w a n a' m D) (ht:dvTouch D k=0) (eg:∀ args w,(callFunc g args).run Tryz.prog w=.ok (.enter g args) w)
  (R:Int->World->Prop) (hc:∀ w1,Below w.heap.size w w1->Calls Tryz.prog g (#[.string (sec D k),.bool (los D k)]++lb) w1 fun e w'=>∃ x,e=.returned (.int .i64 x)∧R x w'):
  Calls Tryz.prog 106 #[.agg #[.slice a n c,.slice a' m c'],.int .i64 k,.func (.func g) #[] lb] w fun e w'=>∃ x,e=.returned (.int .i64 x)∧R x w':=by
 obtain⟨hB,hz,c0,c1⟩:=Z5k w (.slice a n c) (.slice a' m c');obtain⟨hm,_,hk,hm2,_⟩:=ZM D k ht;rw[<- h.sn] at hk;rw[<- h.sn,<- h.sm] at hm2;have hD:=h.below hB;have hC:=T1 a n c a' m c' D _ hD;rw[UW,if_pos hm] at hC;obtain⟨p,o,rfl,hp,e1⟩:=h.sector k (by omega)
 obtain⟨p',o',rfl,hp',e2⟩:=h.lost k (by omega)
 have hk':(k:Int)<m:=by omega
 have HB:=hid (And.intro hB (And.intro hz (And.intro c0 (And.intro c1 (And.intro (And.intro hp e1) (And.intro hp' e2))))));have HC:=hid hC;have HF:=hid hc;clear hB hz c0 c1 hD hC hc h ht hm hp hp' e1 e2 hm2;generalize sec D k=s at HB HF;generalize los D k=l at HB HF;go_enter Tryz.func106,Tryz.ntmps106
 go_wp2_with fail
 refine HC.out.mono ?_
 rintro _ w1 ⟨rfl,g1⟩;have gw:=HB.out.1.trans (g1.mono HB.out.1.size);have b0:w1.cell? ⟨w.heap.size,0,none⟩=some (.slice (some ⟨p,o,none⟩) n c):=(g1.cell (p:=⟨w.heap.size,0,none⟩) (by rw[HB.out.2.1]; exact Nat.lt_succ_self _)).trans HB.out.2.2.1
 have b1:w1.cell? ⟨w.heap.size,1,none⟩=some (.slice (some ⟨p',o',none⟩) m c'):=(g1.cell (p:=⟨w.heap.size,1,none⟩) (by rw[HB.out.2.1]; exact Nat.lt_succ_self _)).trans HB.out.2.2.2.1
 have e1:w1.cell? ⟨p,o+k,none⟩=some (.string s):=(gw.cell (p:=⟨p,o+k,none⟩) HB.out.2.2.2.2.1.1).trans HB.out.2.2.2.2.1.2
 have e2:w1.cell? ⟨p',o'+k,none⟩=some (.bool l):=(gw.cell (p:=⟨p',o'+k,none⟩) HB.out.2.2.2.2.2.1).trans HB.out.2.2.2.2.2.2
 clear g1 HC;have HG:=hid gw;clear gw HB;go_wp2_with fail
 go_region_with (go_at_fn g; refine (HF.out _ HG.out.drew).mono ?_; rintro _ w2 ⟨x,rfl,hR⟩)
 all_goals go_wp2
 all_goals go_ret
 all_goals exact⟨x,rfl,hR⟩
end Go.Proofs.YtdnacpbgodooaaaGreatDoor
