import Derived.Test.YtdnacpbgodooaaaGreatDoorSecA
import Derived.Test.YtdnacpbgodooaaaGreatDoorMem2
set_option maxHeartbeats 1600000
set_option maxRecDepth 4000
namespace Go.Proofs.YtdnacpbgodooaaaGreatDoor
open Go.RowKit Go.Lib
theorem may_no (D:Dv) (k:Nat) (hk:k<D.1.length) (h:(sec D k).size≠30):dvMay D=false:=by
 rw[Bool.eq_false_iff];intro hm;exact h (Yv D k hm hk)
theorem Z6V (D:Dv) (h:∀ j,j<D.1.length->(sec D j).size=30):dvMay D=(decide (1<=D.1.length∧D.1.length<=64)&&(D.2.length==D.1.length)):=by
 have e:(D.1.all fun s=>s.size==30)=true:=by
  rw[List.all_eq_true];intro s hs;obtain⟨j,hj,rfl⟩:=List.mem_iff_getElem.1 hs
  have:=h j hj
  rw[sec_lt D j hj] at this;simp[this]
 unfold dvMay;rw[e,Bool.and_true,Bool.eq_iff_iff];simp[and_assoc]
theorem Z4K (a:Option Addr) (n c:Nat) (a':Option Addr) (m c':Nat) (D:Dv) (w:World) (h:Zc w a n a' m D):
  Calls Tryz.prog 129 #[.agg #[.slice a n c,.slice a' m c']] w fun e w'=>e=.returned (.bool (dvMay D))∧Below w.heap.size w w':=by
 have H:=hid (h.below ((Below.refl _ w).alloc (Nat.le_refl _) (.cells #[.slice a n c,.slice a' m c'] 56)));have hn:=h.sn;have hm:=h.sm;have hnb:=h.nb;have hmb:=h.mb;have HD:=hid (And.intro hn hm);unfold maxLen at hnb hmb;clear hn hm h;go_enter Tryz.func129,Tryz.ntmps129
 go_wp2
 go_loop [3] (fun i=>∃ k:Nat,k<=n∧i=.int .i64 k∧Hid (∀ j,j<k->(sec D j).size=30)) (fun i=>n-(intOf i).toNat)
 case atStart=>exact⟨0,Nat.zero_le _,rfl,fun j hj=>absurd hj (Nat.not_lt_zero _)⟩
 case round=>
  obtain⟨k,hk,rfl,HR⟩:=hrel
  by_cases hlt:k<n
  ·have hlt':(k:Int)<n:=by omega
   obtain⟨b,o,rfl,hb,hc⟩:=H.out.sector k hlt
   by_cases h30:(sec D k).size=30
   ·have R:Hid (∀ j,j<k+1->(sec D j).size=30):=fun j hj=>by
     by_cases e:j=k
     ·rw[e]; exact h30
     ·exact HR.out j (by omega)
    have hq:(((sec D k).size:Int) != 30)=false:=by rw[bne_eq_false_iff_eq]; omega
    generalize sec D k=s at hc hq h30;clear H HR HD;go_wp2
    go_round
    case rel=>exact⟨k+1,by omega,by go_num,R⟩
    case measure=>simp[intOf]; omega
   ·have hf:=may_no D k (by rw[<- HD.out.1]; exact hlt) h30
    have HF:=hid hf;clear hf;have hq:(((sec D k).size:Int) != 30)=true:=by rw[bne_iff_ne]; omega
    generalize sec D k=s at hc hq h30;clear H HR HD;go_wp2
    go_ret
    exact⟨Z7 HF.out.symm,by go_grown⟩
  ·obtain rfl:k=n:=by omega
   have hf:=Z6V D (by rw[<- HD.out.1]; exact HR.out)
   rw[<- HD.out.1,<- HD.out.2] at hf;have HF:=hid hf;clear HR HD H hf;have hnl:¬ (k:Int)<k:=by omega
   have hi:=fun wx=>Zm k 1 64 wx
   have he:((m:Int)==k)=(m==k):=by rw[Bool.eq_iff_iff]; simp; omega
   have hdd:decide ((1:Int)<=k∧(k:Int)<=64)=decide (1<=k∧k<=64):=by rw[decide_eq_decide]; omega
   rw[hdd] at hi;have HI:=hid hi;clear hi hdd;generalize decide (1<=k∧k<=64)=r at HI HF;generalize (m==k)=q at he HF;cases r with
   | true=>
    go_wp2_with fail
    refine (HI.out _).mono ?_
    rintro _ _ ⟨rfl,rfl⟩;go_wp2
    go_ret
    exact⟨Z7 HF.out.symm,by go_grown⟩
   | false=>
    go_wp2_with fail
    refine (HI.out _).mono ?_
    rintro _ _ ⟨rfl,rfl⟩;go_wp2
    go_ret
    exact⟨Z7 HF.out.symm,by go_grown⟩
end Go.Proofs.YtdnacpbgodooaaaGreatDoor
namespace Go.Proofs.YtdnacpbgodooaaaGreatDoor
open Go.RowKit Go.Lib
theorem Yr (a:Option Addr) (n c:Nat) (a':Option Addr) (m c':Nat) (i:Int) (D:Dv) (w:World) (h:Zc w a n a' m D):
  Calls Tryz.prog 73 #[.agg #[.slice a n c,.slice a' m c'],.int .i64 i] w fun e w'=>e=.returned (.int .i64 (dvTouch D i))∧Below w.heap.size w w':=by
 have hM:=Z4K a n c a' m c' D _ (h.below ((Below.refl _ w).alloc (Nat.le_refl _) (.cells #[.slice a n c,.slice a' m c'] 56)));have hB:Below w.heap.size w (w.alloc (.cells #[.slice a n c,.slice a' m c'] 56)):=(Below.refl _ w).alloc (Nat.le_refl _) _;have hz:(w.alloc (.cells #[.slice a n c,.slice a' m c'] 56)).heap.size=w.heap.size+1:=by simp
 have hcell:(w.alloc (.cells #[.slice a n c,.slice a' m c'] 56)).cell? ⟨w.heap.size,0,none⟩=some (.slice a n c):=by simp
 unfold dvTouch;rw[<- h.sn];have hnb:=h.nb;unfold maxLen at hnb;have HM:=hid hM;have HB:=hid (And.intro hB (And.intro hz hcell));clear h hM hB hz hcell;generalize dvMay D=r at HM;cases r with
 | false=>
  rw[if_neg (by decide)]
  go_enter Tryz.func73,Tryz.ntmps73
  go_wp2_with fail
  refine HM.out.mono ?_
  rintro _ w1 ⟨rfl,g1⟩;go_wp2
  go_ret
  exact⟨rfl,HB.out.1.trans (g1.mono HB.out.1.size)⟩
 | true=>
  rw[if_pos rfl];have hi:=fun wx=>Zm i 0 ((n:Int)-1) wx
  have hdd:decide ((0:Int)<=i∧i<=(n:Int)-1)=decide (0<=i∧i<n):=by rw[decide_eq_decide]; omega
  rw[hdd] at hi;have HI:=hid hi;clear hi hdd;have w1:wrap64 ((n:Int)-1)=(n:Int)-1:=IntWalk.wrap64_in _ (by omega)
  by_cases hin:0<=i∧i<n
  ·rw[if_pos hin]
   rw[decide_eq_true hin] at HI;go_enter Tryz.func73,Tryz.ntmps73
   go_wp2_with fail
   refine HM.out.mono ?_
   rintro _ w1 ⟨rfl,g1⟩;have hc1:w1.cell? ⟨w.heap.size,0,none⟩=some (.slice a n c):=(g1.cell (p:=⟨w.heap.size,0,none⟩) (by rw[HB.out.2.1]; exact Nat.lt_succ_self _)).trans HB.out.2.2
   go_wp2_with fail
   refine (HI.out _).mono ?_
   rintro _ w2 ⟨rfl,e2⟩;subst e2;go_wp2
   go_ret
   exact⟨rfl,HB.out.1.trans (g1.mono HB.out.1.size)⟩
  ·rw[if_neg hin]
   rw[decide_eq_false hin] at HI;go_enter Tryz.func73,Tryz.ntmps73
   go_wp2_with fail
   refine HM.out.mono ?_
   rintro _ w1 ⟨rfl,g1⟩;have hc1:w1.cell? ⟨w.heap.size,0,none⟩=some (.slice a n c):=(g1.cell (p:=⟨w.heap.size,0,none⟩) (by rw[HB.out.2.1]; exact Nat.lt_succ_self _)).trans HB.out.2.2
   go_wp2_with fail
   refine (HI.out _).mono ?_
   rintro _ w2 ⟨rfl,e2⟩;subst e2;go_wp2
   go_ret
   exact⟨rfl,HB.out.1.trans (g1.mono HB.out.1.size)⟩
end Go.Proofs.YtdnacpbgodooaaaGreatDoor
namespace Go.Proofs.YtdnacpbgodooaaaGreatDoor
open Go.RowKit Go.Lib
theorem Z4Q:(Tryz.prog.info? 9).map (fun i=>(i.zero,i.size,i.bytes))=some (some (.string ⟨#[]⟩),1,16):=by kernel_rfl
theorem Z3f:(Tryz.prog.info? 4).map (fun i=>(i.zero,i.size,i.bytes))=some (some (.bool false),1,1):=by kernel_rfl
def Yp (B:Nat) (w:World) (a:Option Addr) (e:TypeId) (V:List Value):Prop:=V=[]∨∃ b,a=some ⟨b,0,none⟩∧B<=b∧Own w b e V
theorem Ti (w:World) (t e ty:TypeId) (z:Value) (bytes:Nat) (ht:Tryz.prog.underlying t=some (.slice e)) (hinfo:(Tryz.prog.info? e).map (fun i=>(i.zero,i.size,i.bytes))=some (some z,1,bytes)) (hz:z.cells.size=1)
  (ao:Option Addr) (n c:Nat) (V:List Value) (hV:V.length=n) (hr:Zd w ao V) (h1:∀ v∈V,v.oneCell'=true) (h63:n<=maxLen) (hb:n*bytes<=140737488355328):
  ∃ ao' c' w',(Builtin.append_ #[t,t] ty #[.slice none 0 0,.slice ao n c]).run Tryz.prog w=.ok (.slice ao' n c') w'∧Yp w.heap.size w' ao' e V∧Below w.heap.size w w':=by
 obtain⟨i0,hi,hz0,hz1,hz2⟩:=info_parts hinfo;cases ao with
 | none=>
  have h0:n=0:=by
   rcases Nat.eq_zero_or_pos n with h | h
   ·exact h
   ·obtain⟨b,o,e,_⟩:=hr 0 (V[0]'(by omega)) (List.getElem?_eq_getElem (by omega))
    cases e
  subst h0;refine⟨none,0,w,?_,.inl (List.eq_nil_of_length_eq_zero hV),Below.refl _ _⟩
  simp[Builtin.append_,run_underlying ht,sizeOf,typeInfo,hi,Builtin.lenOf,Builtin.firstCells]
 | some ad=>
  obtain⟨v',w',hrun,r1,r2,_⟩:=run_append_own (P:=Tryz.prog) w w.heap.size t ty e i0 z 1 bytes ht hi hz0 hz1 hz2 hz (by decide) (.slice none 0 0) 0 [] (World.ownsRow_nil w _ e 1) ad n c V (by rw[hV,Nat.mul_one]) (fun j u hj=>by
   obtain⟨b,o,e,_,hc⟩:=hr j u hj;cases e
   rw[Addr.add_lit]; exact hc) h1 (by omega) (by rw[Nat.zero_add]; exact hb) (Nat.le_refl _)
  rw[Nat.zero_add,List.nil_append] at r1;have hbel:Below w.heap.size w w':=(Below.refl _ w).grown r2 (Nat.le_refl _) (fun k hk=>by cases hk)
  rcases r1.2 with ⟨rfl,h0⟩ | ⟨g,cap,cur,rfl,hg,_⟩
  ·subst h0
   exact⟨none,0,w',hrun,.inl (List.eq_nil_of_length_eq_zero hV),hbel⟩
  ·obtain⟨k1,k2⟩:=UM r1
   exact⟨_,cap,w',hrun,.inr ⟨g,rfl,k2,k1⟩,hbel⟩
theorem YX {ops:Array Oper} {o:Oper} {a:Act} {w:World} {K:Act->World->Prop} {Q:Exit->Act->World->Prop} {E:Prop}
  (t e:TypeId) (z:Value) (bytes:Nat) (ht:Tryz.prog.underlying t=some (.slice e)) (hinfo:(Tryz.prog.info? e).map (fun i=>(i.zero,i.size,i.bytes))=some (some z,1,bytes)) (hz:z.cells.size=1)
  (hg:o.guard=none) (x:Operand) (hop:o.op=Op.call { callee:=Callee.builtin Builtin.append,args:=#[.const (.slice none 0 0),x],argTypes:=#[t,t] })
  (w0:World) (ao:Option Addr) (n c:Nat) (V:List Value) (hx:a.eval x=.slice ao n c) (hV:V.length=n) (hr:Zd w0 ao V) (h1:∀ v∈V,v.oneCell'=true) (h63:n<=maxLen) (hb:n*bytes<=140737488355328) (hB:Below w0.heap.size w0 w)
  (hK:∀ ao' c' w',Yp w.heap.size w' ao' e V->Below w.heap.size w w'->Below w0.heap.size w0 w'->K (a.put o.dst (.slice ao' n c')) w'):
  if Region.wanted o (yielded ops a.tmps)=true then Oper.wp Tryz.prog o a w K Q else E:=by
 have hw:Region.wanted o (yielded ops a.tmps)=true:=by simp[Region.wanted,hg]
 rw[if_pos hw];obtain⟨ao',c',w',hrun,r1,r2⟩:=Ti w t e o.type z bytes ht hinfo hz ao n c V hV (hr.below hB) h1 h63 hb;have hc:a.eval (.const (.slice none 0 0))=.slice none 0 0:=rfl;unfold Oper.wp;simp[execOp,hop,resolve,invoke,builtin,hx,hc,hrun,Result.andThen]
 exact hK ao' c' w' r1 r2 (hB.trans (r2.mono hB.size))
theorem Z6i (S:List ByteArray):∀ v∈S.map Value.string,v.oneCell'=true:=by
 intro v hv; obtain⟨x,_,rfl⟩:=List.mem_map.1 hv; rfl
theorem Z4w (L:List Bool):∀ v∈L.map Value.bool,v.oneCell'=true:=by
 intro v hv; obtain⟨x,_,rfl⟩:=List.mem_map.1 hv; rfl
theorem Yp.below {B:Nat} {w w':World} {a:Option Addr} {e:TypeId} {V:List Value} (h:Yp B w a e V) (hb:Below w.heap.size w w'):Yp B w' a e V:=by
 rcases h with h | ⟨b,h1,h2,h3⟩
 ·exact .inl h
 ·exact .inr ⟨b,h1,h2,h3.below' hb⟩
theorem Yp.less {B B':Nat} {w:World} {a:Option Addr} {e:TypeId} {V:List Value} (h:Yp B w a e V) (hb:B'<=B):Yp B' w a e V:=by
 rcases h with h | ⟨b,h1,h2,h3⟩
 ·exact .inl h
 ·exact .inr ⟨b,h1,Nat.le_trans hb h2,h3⟩
theorem Yp.other {B:Nat} {w:World} {a:Option Addr} {e:TypeId} {V:List Value} (h:Yp B w a e V) {p:Addr} (hp:p.block<B) (v:Value):Yp B (w.setCell p v) a e V:=by
 rcases h with h | ⟨b,h1,h2,h3⟩
 ·exact .inl h
 ·exact .inr ⟨b,h1,h2,h3.other (by omega) v⟩
theorem Z6a {B B1:Nat} {w1 w2:World} {a a':Option Addr} {D:Dv} (h1:Yp B w1 a 9 (D.1.map .string)) (h2:Yp B1 w2 a' 4 (D.2.map .bool)) (hb:Below w1.heap.size w1 w2) (hB:B<=B1) (hw:w1.heap.size<=B1):Zj B w2 a a' D:=by
 refine⟨?_,?_,?_⟩
 ·rcases h1.below hb with h | h
  ·exact .inl (List.map_eq_nil_iff.1 h)
  ·exact .inr h
 ·rcases h2.less hB with h | h
  ·exact .inl (List.map_eq_nil_iff.1 h)
  ·exact .inr h
 ·intro n1 n2 b b' e1 e2
  rcases h1 with h | ⟨b1,k1,_,k2⟩
  ·exact absurd (List.map_eq_nil_iff.1 h) n1
  ·rcases h2 with h | ⟨b2,q1,q2,_⟩
   ·exact absurd (List.map_eq_nil_iff.1 h) n2
   ·have:=k2.lt
    subst e1; subst e2
    cases k1; cases q1
    omega
theorem Yy (a:Option Addr) (n c:Nat) (a':Option Addr) (m c':Nat) (D:Dv) (w:World) (h:Zc w a n a' m D) (hn:n*16<=140737488355328) (hm:m<=140737488355328):
  Calls Tryz.prog 38 #[.agg #[.slice a n c,.slice a' m c']] w fun e w'=>∃ ao c1 ao' c2,e=.returned (.agg #[.slice ao n c1,.slice ao' m c2])∧Zj w.heap.size w' ao ao' D∧Below w.heap.size w w':=by
 obtain⟨W,hW⟩:∃ W,W=((w.alloc (.cells #[.slice a n c,.slice a' m c'] 56)).alloc (.cells #[.slice none 0 0,.slice none 0 0] 56)).drew:=⟨_,rfl⟩;have hz:W.heap.size=w.heap.size+2:=by rw[hW]; simp
 have hB:Below w.heap.size w W:=by rw[hW]; go_grown
 have c1:W.cell? ⟨w.heap.size,0,none⟩=some (.slice a n c):=by rw[hW]; simp
 have c2:W.cell? ⟨w.heap.size,1,none⟩=some (.slice a' m c'):=by rw[hW]; simp
 have r0:W.cell? ⟨w.heap.size+1,0,none⟩=some (.slice none 0 0):=by rw[hW]; simp
 have r1:W.cell? ⟨w.heap.size+1,1,none⟩=some (.slice none 0 0):=by rw[hW]; simp
 have f0:∀ o,W.frozen? ⟨w.heap.size+1,o,none⟩=false:=by intro o; rw[hW]; simp
 have HD:=hid (h.below hB);have hlen:(D.1.map Value.string).length=n:=by rw[List.length_map,h.sn]
 have hlen':(D.2.map Value.bool).length=m:=by rw[List.length_map,h.sm]
 have HL:=hid (And.intro hlen hlen');have HW:=hid (And.intro hz (And.intro hB (And.intro c1 (And.intro c2 (And.intro r0 (And.intro r1 f0))))));have HE:=hid hW;have HM:=hid (And.intro h.nb h.mb);clear hlen hlen' h hz hB c1 c2 r0 r1 f0 hW;go_enter Tryz.func38,Tryz.ntmps38
 go_wp2_with fail
 go_region_law (first
  | (refine YX 31 9 (.string ⟨#[]⟩) 16 Tryz.underlying31 Z4Q rfl rfl (.tmp 4) rfl W a n c (D.1.map .string) rfl HL.out.1 HD.out.S (Z6i _) HM.out.1 hn ?_ ?_; (first | (rw[HE.out]; exact Below.refl _ _) | assumption); intro ao1 q1 w1 hN1 hB1 hC1; (have cS2:=(hC1.cell (p:=⟨w.heap.size,1,none⟩) (by show w.heap.size<W.heap.size; rw[HW.out.1]; omega)).trans HW.out.2.2.2.1); (have cS3:=(hC1.cell (p:=⟨w.heap.size+1,0,none⟩) (by show w.heap.size+1<W.heap.size; rw[HW.out.1]; omega)).trans HW.out.2.2.2.2.1); (have cS4:=(hC1.cell (p:=⟨w.heap.size+1,1,none⟩) (by show w.heap.size+1<W.heap.size; rw[HW.out.1]; omega)).trans HW.out.2.2.2.2.2.1); (have fS:=fun o=>(hC1.frozen (p:=⟨w.heap.size+1,o,none⟩) (by show w.heap.size+1<W.heap.size; rw[HW.out.1]; omega)).trans (HW.out.2.2.2.2.2.2 o)); (have HS:=hid (And.intro hN1 (And.intro hB1 hC1))); clear hN1 hB1)
  | (refine YX 54 4 (.bool false) 1 Tryz.underlying54 Z3f rfl rfl (.tmp 7) rfl W a' m c' (D.2.map .bool) rfl HL.out.2 HD.out.L (Z4w _) HM.out.2 (by omega) ?_ ?_; (first | (rw[HE.out]; exact Below.refl _ _) | assumption); intro ao2 q2 w2 hN2 hB2 hC2; (have cL1:=(hC2.cell (p:=⟨w.heap.size,0,none⟩) (by show w.heap.size<W.heap.size; rw[HW.out.1]; omega)).trans HW.out.2.2.1); (have cL3:=(hC2.cell (p:=⟨w.heap.size+1,0,none⟩) (by show w.heap.size+1<W.heap.size; rw[HW.out.1]; omega)).trans HW.out.2.2.2.2.1); (have cL4:=(hC2.cell (p:=⟨w.heap.size+1,1,none⟩) (by show w.heap.size+1<W.heap.size; rw[HW.out.1]; omega)).trans HW.out.2.2.2.2.2.1); (have fL:=fun o=>(hC2.frozen (p:=⟨w.heap.size+1,o,none⟩) (by show w.heap.size+1<W.heap.size; rw[HW.out.1]; omega)).trans (HW.out.2.2.2.2.2.2 o)); (have HLL:=hid (And.intro hN2 (And.intro hB2 hC2))); clear hN2 hB2))
 all_goals
  obtain⟨y0,y1⟩:=Z6 (.slice ao1 n q1) (.slice ao2 m q2) cL3 cL4;have k1:=HS.out.1;rw[<- HE.out,HW.out.1] at k1;have k2:=Z6a k1 HLL.out.1 HLL.out.2.1 (by have:=hC1.size; rw[HW.out.1] at this; exact this) (Nat.le_refl _)
  have k3:=((k2.other (p:=⟨w.heap.size+1,0,none⟩) (by show w.heap.size+1<w.heap.size+2; omega) (.slice ao1 n q1)).other (p:=⟨w.heap.size+1,1,none⟩) (by show w.heap.size+1<w.heap.size+2; omega) (.slice ao2 m q2)).less (show w.heap.size<=w.heap.size+2 by omega)
  have k4:Below w.heap.size w w2:=HW.out.2.1.trans (hC2.mono HW.out.2.1.size);have k5:=(k4.setCell (p:=⟨w.heap.size+1,0,none⟩) (by show w.heap.size<=w.heap.size+1; omega) (.slice ao1 n q1)).setCell (p:=⟨w.heap.size+1,1,none⟩) (by show w.heap.size<=w.heap.size+1; omega) (.slice ao2 m q2)
  have K:=hid (And.intro k3 k5);clear k1 k2 k3 k4 k5 HS HLL hC1 hC2 cS2 cS3 cS4 fS cL1 cL3 cL4 fL;go_wp2_with fail
  refine bodyPost_ret (v:=.agg #[.slice ao1 n q1,.slice ao2 m q2]) (by simp[results,Tryz.results38,go_sem,y0,y1]) rfl ?_
  exact⟨ao1,q1,ao2,q2,rfl,K.out.1,K.out.2⟩
end Go.Proofs.YtdnacpbgodooaaaGreatDoor
namespace Go.Proofs.YtdnacpbgodooaaaGreatDoor
open Go.RowKit Go.Lib
theorem Z79 (a:Option Addr) (n c:Nat) (w:World) (h:n≠3):
  Calls Tryz.prog 74 #[.agg #[.slice a n c]] w fun e w'=>e=.returned (.bool false)∧Below w.heap.size w w':=by
 have h':((n:Int) != 3)=true:=by rw[bne_iff_ne]; omega
 go_enter Tryz.func74,Tryz.ntmps74
 go_wp2
 go_ret
 exact⟨rfl,by go_grown⟩
theorem Z1y (b o c:Nat) (h:Nat->Hd) (A:Ar) (w:World) (H:Arr w b o 3 h A):
  Calls Tryz.prog 74 #[.agg #[.slice (some ⟨b,o,none⟩) 3 c]] w fun e w'=>e=.returned (.bool (Z2 A))∧Below w.heap.size w w':=by
 obtain⟨W,hW⟩:∃ W,W=w.alloc (.cells #[.slice (some ⟨b,o,none⟩) 3 c] 26):=⟨_,rfl⟩;have hB:Below w.heap.size w W:=by rw[hW]; go_grown
 have hz:W.heap.size=w.heap.size+1:=by rw[hW]; simp
 have c0:W.cell? ⟨w.heap.size,0,none⟩=some (.slice (some ⟨b,o,none⟩) 3 c):=by rw[hW]; simp
 have HP:=hid (And.intro hB (And.intro hz (And.intro c0 (H.below hB))));clear hB hz c0 H;go_enter Tryz.func74,Tryz.ntmps74
 go_wp2_with fail
 rw[<- hW];clear hW;go_loopw [3] (fun i wr=>∃ k:Nat,k<=3∧i=.int .i64 k∧Below W.heap.size W wr∧Hid (∀ j,j<k->dvMay (dev A j)=true)) (fun i _=>3-(intOf i).toNat)
 case atStart=>exact⟨0,by omega,rfl,Below.refl _ _,fun j hj=>absurd hj (Nat.not_lt_zero _)⟩
 case round=>
  obtain⟨k,hk,rfl,hB,HR⟩:=hrel;have HA:=HP.out.2.2.2.below hB;have c0:=(hB.cell (p:=⟨w.heap.size,0,none⟩) (by show w.heap.size<W.heap.size; rw[HP.out.2.1]; omega)).trans HP.out.2.2.1
  by_cases hlt:k<3
  ·have hlt':(k:Int)<3:=by omega
   have d0:=HA.c0 k hlt;have d1:=HA.c1 k hlt;have hM:=Z4K (h k).x (h k).p (h k).c (h k).y (h k).q (h k).d (dev A k) wr (HA.dv k hlt);cases hm:dvMay (dev A k) with
   | true=>
    rw[hm] at hM;have HM:=hid hM;have R:Hid (∀ j,j<k+1->dvMay (dev A j)=true):=fun j hj=>by
     by_cases e:j=k
     ·rw[e]; exact hm
     ·exact HR.out j (by omega)
    have HB:=hid hB;clear hM hm HA hB HR;go_wp2_with fail
    refine HM.out.mono ?_
    rintro _ w1 ⟨rfl,g1⟩;go_wp2
    go_roundw
    case rel=>exact⟨k+1,by omega,by go_num,HB.out.trans (g1.mono HB.out.size),R⟩
    case measure=>simp[intOf]; omega
   | false=>
    rw[hm] at hM;have HM:=hid hM;have HF:=hid (Z0l A k (by rw[<- HA.sn]; exact hlt) hm)
    have HB:=hid hB;clear hM hm HA hB HR;go_wp2_with fail
    refine HM.out.mono ?_
    rintro _ w1 ⟨rfl,g1⟩;go_wp2
    go_ret
    exact⟨Z7 HF.out.symm,HP.out.1.trans ((HB.out.trans (g1.mono HB.out.size)).mono HP.out.1.size)⟩
  ·obtain rfl:k=3:=by omega
   have hnl:¬ ((3:Nat):Int)<3:=by omega
   obtain⟨⟨t0,_⟩,⟨t2,_⟩,t4,_⟩:=HA.three;have hF:=Z0m A HA.sn.symm HR.out;have s0:many A=(h 0).p:=(HA.dv 0 (by omega)).sn.symm
   have s1:(dev A 1).1.length=(h 1).p:=(HA.dv 1 (by omega)).sn.symm
   have s2:(dev A 2).1.length=(h 2).p:=(HA.dv 2 (by omega)).sn.symm
   have nb:=(HA.dv 0 (by omega)).nb
   unfold maxLen at nb;rw[s0,s1,s2] at hF;have HF:=hid hF;have HB:=hid hB;have hi:=fun wx=>Zm (h 0).p 16 64 wx
   clear hF s0 s1 s2 HA hB HR hk;generalize (h 0).p=n0 at t0 HF nb hi;generalize (h 1).p=n1 at t2 HF;generalize (h 2).p=n2 at t4 HF
   by_cases e1:16<=n0∧n0<=64
   ·rw[decide_eq_true (show (16:Int)<=n0∧(n0:Int)<=64 by omega)] at hi
    have HI:=hid hi;clear hi
    by_cases e2:n0 % 2=0
    ·have e2':((n0:Int) % 2==0)=true:=by rw[beq_iff_eq]; omega
     by_cases e3:n1=n0
     ·have e3':((n1:Int)==n0)=true:=by rw[beq_iff_eq]; omega
      have e4:((n2:Int)==(n0:Int) / 2)=decide (n2=n0 / 2):=by
       rw[Bool.eq_iff_iff,beq_iff_eq,decide_eq_true_eq]; omega
      have e5:decide (16<=n0∧n0<=64∧n0 % 2=0∧n1=n0∧n2=n0 / 2)=decide (n2=n0 / 2):=by rw[decide_eq_decide]; omega
      have HF':=hid (HF.out.trans e5);clear e5 HF e1 e2 e3;generalize decide (n2=n0 / 2)=z at e4 HF';go_wp2_with (go_at_call 28; refine (HI.out _).mono ?_; rintro _ w9 ⟨rfl,h9⟩; (have h8:=h9.symm); subst h8)
      go_ret
      exact⟨Z7 HF'.out.symm,HP.out.1.trans (HB.out.mono HP.out.1.size)⟩
     ·have e3':((n1:Int)==n0)=false:=by rw[beq_eq_false_iff_ne]; omega
      have e5:decide (16<=n0∧n0<=64∧n0 % 2=0∧n1=n0∧n2=n0 / 2)=false:=decide_eq_false (by omega)
      have HF':=hid (HF.out.trans e5);clear e5 HF e1 e2 e3;go_wp2_with (go_at_call 28; refine (HI.out _).mono ?_; rintro _ w9 ⟨rfl,h9⟩; (have h8:=h9.symm); subst h8)
      go_ret
      exact⟨Z7 HF'.out.symm,HP.out.1.trans (HB.out.mono HP.out.1.size)⟩
    ·have e2':((n0:Int) % 2==0)=false:=by rw[beq_eq_false_iff_ne]; omega
     have e5:decide (16<=n0∧n0<=64∧n0 % 2=0∧n1=n0∧n2=n0 / 2)=false:=decide_eq_false (by omega)
     have HF':=hid (HF.out.trans e5);clear e5 HF e1 e2;go_wp2_with (go_at_call 28; refine (HI.out _).mono ?_; rintro _ w9 ⟨rfl,h9⟩; (have h8:=h9.symm); subst h8)
     go_ret
     exact⟨Z7 HF'.out.symm,HP.out.1.trans (HB.out.mono HP.out.1.size)⟩
   ·rw[decide_eq_false (show ¬ ((16:Int)<=n0∧(n0:Int)<=64) by omega)] at hi
    have HI:=hid hi;have e5:decide (16<=n0∧n0<=64∧n0 % 2=0∧n1=n0∧n2=n0 / 2)=false:=decide_eq_false (by omega)
    have HF':=hid (HF.out.trans e5);clear e5 HF e1 hi;go_wp2_with (go_at_call 28; refine (HI.out _).mono ?_; rintro _ w9 ⟨rfl,h9⟩; (have h8:=h9.symm); subst h8)
    go_ret
    exact⟨Z7 HF'.out.symm,HP.out.1.trans (HB.out.mono HP.out.1.size)⟩
theorem Xz (a:Option Addr) (n c:Nat) (A:Ar) (w:World) (H:Z5 w a n A):
  Calls Tryz.prog 74 #[.agg #[.slice a n c]] w fun e w'=>e=.returned (.bool (Z2 A))∧Below w.heap.size w w':=by
 by_cases h3:n=3
 ·rcases H with ⟨h0,_⟩ | ⟨b,o,h,rfl,H⟩
  ·omega
  ·subst h3
   exact Z1y b o c h A w H
 ·rw[Z0k A (by rw[<- H.len]; exact h3)]
  exact Z79 a n c w h3
end Go.Proofs.YtdnacpbgodooaaaGreatDoor
