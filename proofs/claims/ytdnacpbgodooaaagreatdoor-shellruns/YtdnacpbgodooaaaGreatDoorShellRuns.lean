/- For every number of sectors and every list of acts (nil, empty, of whatever acts) the program's shell.Run answers the very answers (each answer's code, data, names, count and sectors), the very array and the very error that P11.1 to P11.4 say; what was handed in is left as it was; no condition. The listed tables of Go's library are tied; no step looks into them. -/
import Derived.Test.YtdnacpbgodooaaaGreatDoorRows
import Derived.Test.YtdnacpbgodooaaaGreatDoorTie
import Derived.Test.YtdnacpbgodooaaaGreatDoorCards
import Derived.Test.YtdnacpbgodooaaaGreatDoorShlRefs
import Derived.ShutString
import Derived.Lay
set_option maxHeartbeats 3200000
set_option maxRecDepth 100000
namespace Go.Proofs.YtdnacpbgodooaaaGreatDoor.shellRuns
open Go.ChangeShapes Go.WideShapes Go.ChangeAt Go.RowKit Go.Lib
open Go.ChangeMaps (open_string shut_string)
theorem own:ownKnob Tryz.prog.godebug=none:=by kernel_rfl
theorem laidOut:laidOutB Tryz.prog=true:=by kernel_rfl
theorem Z2T (m:Int) (l:List Ac):(scrS m l).1.length<=200:=by
 unfold scrS
 split
 ·split
  ·exact Nat.zero_le _
  ·rename_i h
   show (runS _ l).2.length<=200
   rw[Z4b];omega
 ·exact Nat.zero_le _
theorem Z4c (ty:TypeId) (w:World) (a:Option Addr) (n c:Nat) (L:List Ax) (H:WD w a n L) (hr:n*80<=140737488351232):
  ∃ a' c' w',(Builtin.append_ #[22,22] ty #[.slice none 0 0,.slice a n c]).run Tryz.prog w=.ok (.slice a' n c') w'∧WD w' a' n L∧Below w.heap.size w w':=by
 obtain⟨i0,hi,hz0,hz1,hz2⟩:=info_parts Z4R
 by_cases h0:n=0
 ·subst h0
  have hu:=Tryz.underlying22;have hL:L=[]:=List.eq_nil_of_length_eq_zero H.sn.symm;subst hL;refine⟨none,0,w,?_,actAt_none _ _,Below.refl _ _⟩
  cases a <;> simp[Builtin.append_,run_underlying hu,sizeOf,typeInfo,hi,Builtin.lenOf,Builtin.firstCells,loadCells,loadCellsFrom]
 ·have hl:(axV L).length=n*7:=by rw[Z5I,<- H.sn]
  obtain⟨b,o,rfl,hb,_⟩:=H.row 0 _ (List.getElem?_eq_getElem (by omega))
  have hnews:∀ j v,(axV L)[j]?=some v->w.cell? ((⟨b,o,none⟩:Addr).add j)=some v:=fun j v hv=>by
   obtain⟨b2,o2,e,_,h⟩:=H.row j v hv;cases e
   rw[Addr.add_lit];exact h
  have hrun:=run_append_nil (P:=Tryz.prog) w 22 ty 46 i0 _ Tryz.underlying22 hi hz0 ⟨b,o,none⟩ n c (axV L) (by rw[hz1]; exact hl) hnews (by omega) (by omega) (by rw[hz2]; omega)
  have gd:Below w.heap.size w w.drew:=(Below.refl _ _).drew;refine⟨_,_,_,hrun,⟨H.sn,H.nb,?_,fun q hq=>?_⟩,gd.alloc (Nat.le_refl _) _⟩
  ·intro j v hv
   have hj:j<(axV L).length:=(List.getElem?_eq_some_iff.1 hv).1
   refine⟨w.heap.size,0,rfl,?_,?_⟩
   ·have:=(show (w.drew.alloc (Obj.cells ((axV L).toArray++Builtin.zeroCells (Value.agg #[.int .i64 0,.slice none 0 0,.string ⟨#[]⟩,.int .i64 0,.int .i64 0,.int .i64 0,.int .i64 0]).cells (grownCap w n 0 46-n)) 46)).heap.size=w.heap.size+1 by simp)
    omega
   ·rw[Nat.zero_add]
    have:=heap_alloc_new w.drew (Obj.cells ((axV L).toArray++Builtin.zeroCells (Value.agg #[.int .i64 0,.slice none 0 0,.string ⟨#[]⟩,.int .i64 0,.int .i64 0,.int .i64 0,.int .i64 0]).cells (grownCap w n 0 46-n)) 46)
    rw[show w.drew.heap.size=w.heap.size from rfl] at this;simp only[World.cell?,this]
    rw[Array.getElem?_append_left (by simpa using hj)]
    simpa using hv
  ·exact (H.ok q hq).below (gd.alloc (Nat.le_refl _) _)
theorem QY (w:World) {ops:Array Oper} {rest:List Oper} {o:Oper} {a:Act} {Q:Exit->Act->World->Prop} (hgd:o.guard=none) (s x:Operand)
  (ho:o.op=.call { callee:=.builtin .append,args:=#[s,x],argTypes:=#[22,22] }) (hs:a.eval s=.slice none 0 0)
  (ad:Option Addr) (n c:Nat) (L:List Ax) (hx:a.eval x=.slice ad n c) (H:WD w ad n L) (hr:n*80<=140737488351232)
  (h:∀ a' c' w',WD w' a' n L->Below w.heap.size w w'->wpList Tryz.prog ops Q rest (a.put o.dst (.slice a' n c')) w'):
  wpList Tryz.prog ops Q (o::rest) a w:=by
 obtain⟨a',c',w',hrun,h1,h2⟩:=Z4c o.type w ad n c L H hr;refine wpList_plain hgd fun K hK=>?_
 unfold Oper.wp execOp;simp only[ho,resolve,invoke,builtin,Sem.run_bind,Sem.run_pure,Result.andThen_ok,List.map_toArray,List.map_cons,List.map_nil,hs,hx,hrun]
 exact hK _ _ (h a' c' w' h1 h2)
theorem two_at {LX LY:List Nx} (h:ans LX=ans LY) {k:Nat} {q q2:Nx} (h1:LX[k]?=some q) (h2:LY[k]?=some q2):q2.r=q.r:=by
 have e:=congrArg (fun l:List An=>l[k]?) h
 simp only[ans,List.getElem?_map,h1,h2,Option.map_some,Option.some.injEq] at e
 exact e.symm
theorem walk (w:World) (m:Int) (a:Option Addr) (n c:Nat) (L:List Ax) (_:(Lit.int .i64 m).wf=true) (h:(n<=c∧WD w a n L)∧n*80<=reachBytes):
  Calls Tryz.prog 3 #[.int .i64 m,.slice a n c] w fun e w'=>e=.returned (.bool true)∧Below w.heap.size w w':=by
 have hr:n*80<=140737488351232:=h.2;have HA:=hid h.1.2;have CR:=hid (fun (a':Option Addr) (c':Nat) (wx:World) (H:WD wx a' n L)=>Z65 m a' n c' L wx H)
 have CS:=hid (fun (wx:World) (H:WD wx a n L)=>Z7C m a n c L wx H)
 have HL:=hid (Z2T m (acs L));generalize scrS m (acs L)=R at CR CS HL;obtain⟨RA,RB,RC⟩:=R;dsimp only at HL;clear h;go_enter Tryz.func3,Tryz.ntmps3
 go_wp2_with (at_builtin; (refine QY _ rfl (.const (.slice none 0 0)) (.tmp 14) rfl rfl a n c L rfl HA.out hr ?_; intro a1 c1 w1 h1 g1; (have H1:=hid (And.intro h1 g1)); clear h1 g1))
 refine (CR.out _ _ _ H1.out.1).mono ?_
 rintro _ w2 ⟨xa,xn,xc,ya,yn,yc,LX,rfl,⟨hx1,hx2⟩,hx3,gx⟩;dsimp only at hx1 hx3;go_upto_region 2 with fail
 obtain⟨V,hV⟩:∃ V,V=w2.alloc (.cells #[.slice ya yn yc] 26):=⟨_,rfl⟩;have gV:Below w2.heap.size w2 V:=by rw[hV]; exact (Below.refl _ w2).alloc (Nat.le_refl _) _
 have oV:Own V w2.heap.size 26 [.slice ya yn yc]:=by rw[hV]; exact Own.made w2 26 [.slice ya yn yc]
 have G1:=bel3 H1.out.2 (bel3 gx gV);have HV:=hid (And.intro G1 (And.intro (hx2.below gV) (And.intro (hx3.below gV) oV)));have C2:=hid (CS.out V (HA.out.below G1));rw[<- hV];have HX:=hid hx1;clear hV gV oV G1 hx1 hx2 hx3 gx H1 CR CS HA hr;generalize w2.heap.size=p at HV ⊢;go_wp2_with fail
 refine C2.out.mono ?_
 rintro _ w3 ⟨za,zn,zc,ta,tn,tc,LY,rfl,⟨hy1,hy2⟩,hy3,gy⟩;dsimp only at hy1 hy3;go_upto_region 3 with fail
 obtain⟨U,hU⟩:∃ U,U=w3.alloc (.cells #[.slice ta tn tc] 26):=⟨_,rfl⟩;have gU:Below w3.heap.size w3 U:=by rw[hU]; exact (Below.refl _ w3).alloc (Nat.le_refl _) _
 have oU:Own U w3.heap.size 26 [.slice ta tn tc]:=by rw[hU]; exact Own.made w3 26 [.slice ta tn tc]
 have lX:LX.length=RA.length:=by rw[<- HX.out]; exact (List.length_map _).symm
 have lY:LY.length=RA.length:=by rw[<- hy1]; exact (List.length_map _).symm
 have hN:=HL.out;have AX:=((HV.out.2.1.below (bel3 gy gU)).at (by unfold maxLen; omega)).2
 have AY:=((hy2.below gU).at (by unfold maxLen; omega)).2
 have DX:=HV.out.2.2.1.below (bel3 gy gU);have DY:=hy3.below gU;have oX:=HV.out.2.2.2.below' (bel3 gy gU);obtain rfl:xn=zn:=by rw[AX.sn,AY.sn,lX,lY]
 obtain rfl:yn=tn:=by rw[DX.len,DY.len]
 have d0:=oX.cell (i:=0) rfl;have d1:=oU.cell (i:=0) rfl;have SA:=hid (Z0E ya yn yc ta tc RB U DX DY);have hxn:xn<=200:=by rw[AX.sn,lX]; exact hN
 have HB:=hid (And.intro (bel3 HV.out.1 (bel3 gy gU)) (And.intro AX (And.intro AY (show ans LX=ans LY by rw[HX.out,hy1]))))
 rw[<- hU];have n1:((xn:Int) != xn)=false:=bne_self_eq_false _;have n2:(RC != RC)=false:=bne_self_eq_false _;clear hU gU oU lX lY hN AX AY DX DY oX hy1 hy2 hy3 gy HV HX C2 HL;generalize w3.heap.size=p2 at d1 ⊢;go_wp2_with fail
 refine SA.out.mono ?_
 rintro _ w4 ⟨rfl,g4⟩;have H4:=hid (And.intro (bel3 HB.out.1 g4) (And.intro (HB.out.2.1.below g4) (And.intro (HB.out.2.2.1.below g4) HB.out.2.2.2)));clear SA d0 d1 n1 n2 HB g4;go_wp2_with fail
 go_loopw [11] (fun i wr=>∃ k:Nat,k<=xn∧i=.int .i64 k∧Hid (Below w4.heap.size w4 wr)) (fun i _=>xn-(RowKit.intOf i).toNat)
 case atStart=>exact⟨0,Nat.zero_le _,rfl,Below.refl _ _⟩
 case round=>
  obtain⟨k,hk,rfl,G⟩:=hrel
  by_cases hlt:k<xn
  ·have hlt':(k:Int)<xn:=by omega
   obtain⟨q,b1,o1,hq,rfl,_,hok,x0,x1,x2,x3,x4⟩:=(H4.out.2.1.below G.out).one k hlt;obtain⟨q2,b2,o2,hq2,rfl,_,hok2,y0,y1,y2,y3,y4⟩:=(H4.out.2.2.1.below G.out).one k hlt;have e:=two_at H4.out.2.2.2 hq hq2;obtain⟨r,⟨fa,fn,fc⟩,⟨ga,gn,gc⟩⟩:=q;obtain⟨r2,⟨fa2,fn2,fc2⟩,⟨ga2,gn2,gc2⟩⟩:=q2;obtain rfl:r2=r:=e;dsimp only at x0 x1 x2 x3 x4 y0 y1 y2 y3 y4;obtain rfl:fn=fn2:=hok.sn.trans hok2.sn.symm;obtain rfl:gn=gn2:=hok.G.sn.trans hok2.G.sn.symm;have CT:=hid (fun (wx:World) (g:Below wr.heap.size wr wx)=>Z2W fa fn fc fa2 fc2 r2.names wx (hok.S.below g) (hok2.S.below g) hok.sn hok.sb)
   have CI:=hid (fun (wx:World) (g:Below wr.heap.size wr wx)=>Jr ga gn gc ga2 gc2 (ups r2.gone) wx (hok.G.below g) (hok2.G.below g))
   have HC:=hid (fun (wx:World) (g:Below wr.heap.size wr wx)=>(And.intro (cell_at g x0) (And.intro (cell_at g x1) (And.intro (cell_at g x2) (And.intro (cell_at g x3) (And.intro (cell_at g x4) (And.intro (cell_at g y0) (And.intro (cell_at g y1) (And.intro (cell_at g y2) (And.intro (cell_at g y3) (cell_at g y4)))))))))))
   clear hq hq2 hok hok2;go_wp2_with fail
   dsimp only[List.append];go_region_held3 (fun w'=>w'.cell? ⟨b1,o1+k*5,none⟩=some (.int .i64 r2.code)∧w'.cell? ⟨b1,o1+k*5+1,none⟩=some (.string (str r2.data))∧w'.cell? ⟨b1,o1+k*5+2,none⟩=some (.slice fa fn fc)∧w'.cell? ⟨b1,o1+k*5+3,none⟩=some (.int .i64 r2.count)∧w'.cell? ⟨b1,o1+k*5+4,none⟩=some (.slice ga gn gc)∧w'.cell? ⟨b2,o2+k*5,none⟩=some (.int .i64 r2.code)∧w'.cell? ⟨b2,o2+k*5+1,none⟩=some (.string (str r2.data))∧w'.cell? ⟨b2,o2+k*5+2,none⟩=some (.slice fa2 fn fc2)∧w'.cell? ⟨b2,o2+k*5+3,none⟩=some (.int .i64 r2.count)∧w'.cell? ⟨b2,o2+k*5+4,none⟩=some (.slice ga2 gn gc2)) (go_keep)
    (first
     | (go_at_call 7; refine (CT.out _ ((Below.refl _ wr).drew)).mono ?_; rintro _ w5 ⟨rfl,g5⟩; (have G5:=hid (undrew g5)); (obtain⟨j0,j1,j2,j3,j4,j5,j6,j7,j8,j9⟩:=HC.out _ G5.out); clear g5)
     | (go_at_call 8; refine (CI.out _ G5.out).mono ?_; rintro _ w6 ⟨rfl,g6⟩; (have G6:=hid (bel3 G5.out g6)); (obtain⟨l0,l1,l2,l3,l4,l5,l6,l7,l8,l9⟩:=HC.out _ G6.out); clear g6))
   all_goals go_wp2
   all_goals go_roundw
   all_goals (first | (case rel=>exact⟨k+1,by omega,by go_num,bel3 G.out G6.out⟩) | skip)
   all_goals (simp[RowKit.intOf]; omega)
  ·have hlt':¬ (k:Int)<xn:=by omega
   have F:=hid (bel3 H4.out.1 G.out);clear H4 G;go_wp2
   go_ret
   exact⟨rfl,F.out⟩
theorem lifted (os:Os) (started:os.Started) (H:Type) (enc:TypeId × Value->H):
  ReturnsInHanded {} Tryz.checked os 3 .any (fun w args=>(Rows.shellRunsSpec.pre enc Tryz.prog Tryz.f3 Rows.shellRunsRow.domain false w args∧laidMetH Tryz.prog Rows.shellRunsRow.laid w)∧sizedMet enc Tryz.prog Tryz.f3 (OpenSpec.ofChange Rows.shellRunsSpec) false w args)
   (Rows.shellRunsSpec.post enc Tryz.prog Tryz.f3 false true false false):=by
 refine returnsInHanded_of_change_and (C:=Tryz.checked) (X:=fun w _=>laidMetH Tryz.prog Rows.shellRunsRow.laid w) (fun _ _ _ hh h=>h.of_heap hh) own started (by kernel_rfl) Tryz.func3
  (ChangeSpec.witness_shaped (enc:=enc) (C:=Tryz.checked) (os:=os) (X:=fun w _=>laidMetH Tryz.prog Rows.shellRunsRow.laid w) false (World.laidAll Tryz.prog os Rows.shellRunsRow.laid) #[.int .i64 0,.slice none 0 0] 8 (World.laidAll_os _ _ _)
   (World.shaped_of_ZipB (by kernel_rfl) (by kernel_rfl)) (by kernel_rfl) (by kernel_rfl) (by kernel_rfl)
   (by rw[MakeChecks.laidMetH_plain _ _ _ (by kernel_rfl)]; exact laidMet_laidAll _ (by kernel_rfl) (by kernel_rfl))) ?_
 intro W base args ds gs before hval0 hW hcnd hsz0 _hL _;have hsz:(DataW.weightsEach Tryz.prog (Tryz.f3.params.toList++Rows.shellRunsSpec.plain.varTypes Tryz.prog) (ds++gs)).all (·<=reachBytes)=true:=hsz0;have hval:∀ (j:Nat) t v,Tryz.f3.params[j]?=some t->args[j]?=some v->Value.okWide Tryz.prog W .any base t v:=hval0
 have hW':=hW;obtain⟨p,q,hA0,hV,rfl,hfz,hnd⟩:=hW;have hA:DataW.TrodAll enc Tryz.prog W 0 (fun _=>true) true Tryz.f3.params.toList args.toList ds p:=hA0
 rw[Tryz.params3] at hA hval hsz;obtain⟨v0,vs0,d0,ds0,p0,q0,hargs,rfl,rfl,h0,r0⟩:=trodAll_cons hA;obtain⟨v1,vs1,d1,ds1,p1,q1,rfl,rfl,rfl,h1,r1⟩:=trodAll_cons r0;obtain⟨rfl,rfl,rfl⟩:=trodAll_nil r1;obtain rfl:args=#[v0,v1]:=by cases args; simp_all
 obtain⟨rfl,rfl⟩:=trodVars_none hV;obtain⟨a0,rfl,rfl,rfl,w0⟩:=open_int Tryz.underlying3 (hval 0 3 v0 rfl rfl) h0;have h1k:=h1;obtain⟨a1,n1,c1,L1,rfl,w1,f1⟩:=Z4v (hval 1 22 v1 rfl rfl) h1;have l1:∀ x∈p1,x.block<W.heap.size:=fun x hx=>hW'.lt x (by simp[hx])
 clear hA0 hval0;refine (walk W a0 a1 n1 c1 L1 w0 (And.intro w1 (f1 (fun x hx=>Z2G hsz (j:=1) (t:=22) rfl rfl hx)))).mono fun e W' ⟨he,bel⟩=>?_
 subst he;exact⟨_,rfl,_,_,_,[],_,[],hW',trodAll_mk1 (shut_bool Tryz.underlying4 _),(trodAll_cons_mk (shut_int Tryz.underlying3 w0) (trodAll_cons_mk (Below.trod laidOut (by kernel_rfl) (of_decide_eq_true (by kernel_rfl)) h1k bel l1) trodAll_mk0)),rfl,bel.frame _,fun h=>by cases h⟩
theorem over:Rows.shellRunsRow.holds Tryz.pinned (OpenSpec.ofChange Rows.shellRunsSpec):=
 OpenClaim.holds_of_wide 3 Tryz.f3 rfl rfl rfl rfl rfl rfl rfl ⟨rfl,rfl,rfl,rfl,rfl⟩ rfl rfl rfl rfl rfl (by kernel_rfl) Tryz.func3 (by kernel_rfl)
  (of_decide_eq_true (by kernel_rfl)) (by unfold Func.isWrapper; first | (rw[if_pos (by decide +kernel)]; kernel_rfl) | (rw[if_neg (by decide +kernel)]; exact⟨rfl,rfl⟩))
  (fun os started H enc _=>lifted os started H enc)
end Go.Proofs.YtdnacpbgodooaaaGreatDoor.shellRuns
namespace Go.Proofs.YtdnacpbgodooaaaGreatDoor
theorem shellRuns_holds:Rows.ShellRunsCardSaid:=
 Claim7.holds_tied_plain_at .later [] [.data,.pinned] true (true, "e1a446a72c0394ff37817d80dbfac8b65bcac568b61183c5224abe9c6c0c20d8") false
  shellRuns.over (fun _ h=>by cases h) (by kernel_rfl) (fun _ h=>by cases h) shellRuns_row_tie rfl ⟨rfl,rfl⟩ (by kernel_rfl) rfl
  (fun f fn hf hfn=>by
   obtain rfl:f=3:=Option.some.inj ((show Tryz.prog.funcNamed "arras/arraslaw.ShellRuns" = some 3 by kernel_rfl).symm.trans hf) |>.symm
   obtain rfl:fn=Tryz.f3:=(Option.some.inj (Tryz.func3.symm.trans hfn)).symm;exact⟨by kernel_rfl,fun j t ht=>by
    rw[Tryz.params3] at ht;have hm:t∈[3,22]:=by simpa using Array.mem_of_getElem? ht
    have hall:([3,22].all fun u=>!Tryz.prog.wantsStandIn u)=true:=by kernel_rfl
    exact (show Tryz.prog.wantsStandIn t=false by simpa using List.all_eq_true.1 hall t hm)⟩)
  (by kernel_rfl)
#print axioms shellRuns_holds
end Go.Proofs.YtdnacpbgodooaaaGreatDoor
