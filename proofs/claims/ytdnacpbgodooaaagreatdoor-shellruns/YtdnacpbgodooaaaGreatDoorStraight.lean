import Derived.Deep.RegionHeld3
import Derived.Test.YtdnacpbgodooaaaGreatDoorRows
namespace Go.Proofs.YtdnacpbgodooaaaGreatDoor
open Go
section
variable {P:Program} {ops:Array Oper} {Q:Exit->Act->World->Prop} {md:Region.Mode} {A B C:World->Prop} {d:Nat}
def Tells (P:Program) (ops:Array Oper) (C:World->Prop) (o:Oper) (v:Value) (a:Act):Prop:=
 (Region.wanted o (yielded ops a.tmps)=true ∧
  ((∀ w,C w->(execOp a.eval o).run P w=.ok (.value v) w) ∨
  ∃ f args,(∀ w,C w->(execOp a.eval o).run P w=.ok (.enter f args) w)∧∀ w,C w->Calls P f args w fun e w'=>e=.returned v∧w'=w)) ∨
 (Region.wanted o (yielded ops a.tmps)=false∧v=undef)
theorem Tells.of_same {o:Oper} {v:Value} {a a':Act} (hy:Tells P ops C o v a) (he:execOp a'.eval o=execOp a.eval o)
  (hw:Region.wanted o (yielded ops a'.tmps)=Region.wanted o (yielded ops a.tmps)):Tells P ops C o v a':=by
 unfold Tells at *;rw[he,hw];exact hy
theorem Tells.wpOp {i:Nat} {o:Oper} {v:Value} {a:Act} (hi:ops[i]?=some o) (hy:Tells P ops C o v a)
  {K:Act->World->Prop} {w:World} (hC:C w) (h:K (a.put o.dst v) w):wpOp P ops Q i K a w:=by
 unfold Go.wpOp;simp only[hi]
 rcases hy with ⟨hw,hv | ⟨f,args,hr,hc⟩⟩ | ⟨hw,rfl⟩
 ·simp only[hw,if_true,Oper.wp,hv w hC,Oper.upon]; exact .inl h
 ·simp only[hw,if_true,Oper.wp,hr w hC,Oper.upon]
  refine .inl ((hc w hC).mono fun e w' he=>?_)
  obtain⟨rfl,rfl⟩:=he;exact h
 ·simp only[hw,Bool.false_eq_true,if_false]; exact h
theorem Z3P {j:Nat} {oi oj:Oper} {v:Value} (hj:ops[j]?=some oj) (hap:oi.apart ops oj=true)
  (hsi:∀ cs b,oi.op≠.select cs b) (hsj:∀ cs b,oj.op≠.select cs b)
  (hQ:∀ c a w,Q (.panic c) (a.put oi.dst v) w->Q (.panic c) a w) {K:Act->World->Prop} {a:Act} {w:World}
  (hy:Tells P ops C oi v a) (h:wpOp P ops Q j K (a.put oi.dst v) w):
  wpOp P ops Q j (fun a' w'=>Tells P ops C oi v a'∧K (a'.put oi.dst v) w') a w:=by
 obtain⟨h1,h2,h3⟩:=Oper.apart_spec hap;have keep:∀ (a:Act),Tells P ops C oi v a->∀ u,Tells P ops C oi v (a.put oj.dst u):=fun a hy u=>
  hy.of_same (execOp_put oi hsi a oj.dst u h3) (wanted_put oi a oj.dst u h3)
 have keepD:∀ d,Tells P ops C oi v { a with defers:=d::a.defers }:=fun d=>hy.of_same rfl rfl
 unfold wpOp at *;simp only[hj] at *
 rw[wanted_put oj a oi.dst v h1] at h
 split
 ·rename_i hw
  simp only[hw,if_true] at h
  rcases h with h | ⟨hasks,hlets⟩
  case inr=>exact .inr ⟨by unfold Oper.asks at *; rw[execOp_put oj hsj a oi.dst v h1] at hasks; exact hasks,hlets⟩
  refine .inl ?_
  unfold Oper.wp at *;rw[execOp_put oj hsj a oi.dst v h1] at h;generalize (execOp a.eval oj).run P w=r at *;cases r with
  | ok n w'=>
   cases n <;> simp only[Oper.upon] at h ⊢
   case value u=>exact⟨keep a hy u,by rw[<- Act.put_comm a v u h2]; exact h⟩
   case skip=>exact⟨keep a hy _,by rw[<- Act.put_comm a v undef h2]; exact h⟩
   case defer d=>
    refine⟨keep _ (keepD d) _,?_⟩
    rw[<- Act.put_comm _ v undef h2,<- Act.put_defers];exact h
   case enter f args=>
    refine Calls.mono h fun e w'' he=>?_
    cases e with
    | returned u=>exact⟨keep a hy u,by rw[<- Act.put_comm a v u h2]; exact he⟩
    | panicked c=>exact hQ _ _ _ he
    | outgrown=>exact he
   case row row args=>exact Rows.mono h fun u w'' he=>⟨keep a hy u,by rw[<- Act.put_comm a v u h2]; exact he⟩
  | halt x w'=>
   cases x <;> simp only[Oper.upon] at h ⊢
   case panic u=>exact hQ _ _ _ h
 ·rename_i hw
  simp only[hw] at h
  exact⟨keep a hy _,by rw[<- Act.put_comm a v undef h2]; exact h⟩
def Till (A B:World->Prop) (d:Nat) (listed:Array Bool) (w:World):Prop:=A w∧(listed.getD d true=false->B w)
def wpTill (P:Program) (md:Region.Mode) (ops:Array Oper) (Q:Exit->Act->World->Prop) (A B:World->Prop) (d:Nat):Nat->Array Bool->Act->World->Prop
 | 0,listed,a,w=>Region.ready md ops listed=[]∧Q .normal a w
 | fuel+1,listed,a,w=>
  (Region.ready md ops listed=[]->Q .normal a w) ∧
  ∀ i∈Region.ready md ops listed,wpOp P ops Q i (fun a' w'=>Till A B d (listed.setIfInBounds i true) w'∧wpTill P md ops Q A B d fuel (listed.setIfInBounds i true) a' w') a w
theorem V5:∀ (fuel:Nat) (listed:Array Bool) (a:Act) (w:World),wpTill P md ops Q A B d fuel listed a w->wpAny P md ops Q fuel listed a w
 | 0,_,_,_,h=>h
 | fuel+1,_,_,_,h=>⟨h.1,fun i hi=>wpOp_mono (fun a' w' h'=>V5 fuel _ a' w' h'.2) (h.2 i hi)⟩
theorem YV {i:Nat} {oi:Oper} {v:Value} (late:Bool) (hi:ops[i]?=some oi) (hid:i≠d)
  (hC:∀ w,A w->(late=true->B w)->C w)
  (hd:late=true->∀ l:Array Bool,d∈Region.ready md ops l->l.getD i false=true)
  (hsel:∀ (j:Nat) (o:Oper) cs b,ops[j]?=some o->o.op≠.select cs b)
  (hQ:∀ c a w,Q (.panic c) (a.put oi.dst v) w->Q (.panic c) a w):
  ∀ (fuel:Nat) (listed:Array Bool) (a:Act) (w:World),
   (∀ j oj,ops[j]?=some oj->j≠i->listed.getD j true=false->(∀ e∈oj.after,Region.binds md e=true->e.on≠i)->oi.apart ops oj=true) ->
   i∈Region.ready md ops listed->(late=true->listed.getD d true=false)->Tells P ops C oi v a->Till A B d listed w ->
   wpTill P md ops Q A B d fuel (listed.setIfInBounds i true) (a.put oi.dst v) w->wpTill P md ops Q A B d (fuel+1) listed a w:=by
 intro fuel
 induction fuel with
 | zero=>
  intro listed a w _ hr hl hy hS H;refine⟨fun h=>(by rw[h] at hr; cases hr),fun j hj=>?_⟩
  by_cases hji:j=i
  ·subst hji; exact hy.wpOp hi (hC w hS.1 fun e=>hS.2 (hl e)) ⟨⟨hS.1,by rw[getD_set_ne true hid]; exact hS.2⟩,H⟩
  ·have:=ready_mono hj hji
   rw[H.1] at this;cases this
 | succ fuel ih=>
  intro listed a w hfree hr hl hy hS H;refine⟨fun h=>(by rw[h] at hr; cases hr),fun j hj=>?_⟩
  by_cases hji:j=i
  ·subst hji; exact hy.wpOp hi (hC w hS.1 fun e=>hS.2 (hl e)) ⟨⟨hS.1,by rw[getD_set_ne true hid]; exact hS.2⟩,H⟩
  ·have h1:=H.2 j (ready_mono hj hji)
   obtain⟨hjun,oj,hoj,hall⟩:=mem_ready.1 hj;have hun:listed.getD i true=false:=(mem_ready.1 hr).1;have hun':listed.getD i false≠true:=fun h1=>by
    rcases Nat.lt_or_ge i listed.size with h' | h'
    ·simp[h'] at hun h1; rw[hun] at h1; cases h1
    ·simp[Array.getElem?_eq_none h'] at h1
   have hnot:∀ e∈oj.after,Region.binds md e=true->e.on≠i:=fun e he hb heq=>by
    have h1:=hall e he hb;rw[heq] at h1;exact hun' h1
   have hjd:late=true->j≠d:=fun e h=>hun' (hd e listed (h▸hj))
   have h2:=Z3P hoj (hfree j oj hoj hji hjun hnot) (fun cs b=>hsel i oi cs b hi) (fun cs b=>hsel j oj cs b hoj) hQ hy h1
   have hfree':∀ k ok,ops[k]?=some ok->k≠i->(listed.setIfInBounds j true).getD k true=false ->
     (∀ e∈ok.after,Region.binds md e=true->e.on≠i)->oi.apart ops ok=true:=fun k ok hk hki hun hno=>by
    refine hfree k ok hk hki ?_ hno
    by_cases hjk:j=k
    ·subst hjk; exact hjun
    ·rw[getD_set_ne true hjk] at hun; exact hun
   refine wpOp_mono (fun a' w' h3=>?_) h2
   have hT:Till A B d (listed.setIfInBounds j true) w':=by
    have:=h3.2.1
    rw[Array.setIfInBounds_comm _ _ (Ne.symm hji)] at this;refine⟨this.1,fun e=>this.2 ?_⟩
    rw[getD_set_ne true hid]; exact e
   refine⟨hT,ih (listed.setIfInBounds j true) a' w' hfree' (ready_mono hr (Ne.symm hji)) (fun e=>by rw[getD_set_ne true (hjd e)]; exact hl e) h3.1 hT ?_⟩
   rw[Array.setIfInBounds_comm _ _ hji];exact h3.2.2
def TX (md:Region.Mode) (ops:Array Oper) (d i:Nat):Bool:=
 match ops[d]? with
 | some o=>o.after.any fun e=>Region.binds md e&&e.on==i
 | none=>false
theorem TW {i:Nat} (h:TX md ops d i=true) (l:Array Bool) (hd:d∈Region.ready md ops l):l.getD i false=true:=by
 obtain⟨_,o,ho,hall⟩:=mem_ready.1 hd;unfold TX at h;rw[ho] at h;obtain⟨e,he,hb⟩:=Array.any_eq_true'.1 h;simp only[Bool.and_eq_true,beq_iff_eq] at hb
 have:=hall e he hb.1
 rw[hb.2] at this;exact this
theorem YN {o:Oper} {rest:List Oper} {i:Nat} (h:ops.toList.drop i=o::rest):ops[i]?=some o:=by
 rw[<- Array.getElem?_toList,<- List.head?_drop,h]; rfl
theorem Z0u {i:Nat} {oi:Oper} {rest:List Oper} {v:Value} {fuel:Nat} {listed:Array Bool} {a:Act} {w:World} (hi:ops.toList.drop i=oi::rest)
  (hs:Region.noSelect ops=true) (hf:Region.free md ops listed i=true) (hr:((Region.ready md ops listed).contains i&&i != d)=true)
  (hQ:∀ c a w,Q (.panic c) (a.put oi.dst v) w->Q (.panic c) a w) (hg:Region.wanted oi (yielded ops a.tmps)=true)
  (hy:∀ w,A w->(execOp a.eval oi).run P w=.ok (.value v) w) (hS:Till A B d listed w)
  (h:Till A B d (listed.setIfInBounds i true) w->wpTill P md ops Q A B d fuel (listed.setIfInBounds i true) (a.put oi.dst v) w):wpTill P md ops Q A B d (fuel+1) listed a w:=by
 have hi:=YN hi;obtain⟨hr,hid⟩:(Region.ready md ops listed).contains i=true∧i≠d:=by simpa using hr
 exact YV (C:=A) false hi hid (fun w h _=>h) (fun e=>by cases e) (Region.noSelect_spec hs) hQ fuel listed a w (Region.free_spec hi hf) (by simpa using hr) (fun e=>by cases e) (.inl ⟨hg,.inl hy⟩) hS
  (h ⟨hS.1,by rw[getD_set_ne true hid]; exact hS.2⟩)
theorem tkn {i:Nat} {oi:Oper} {rest:List Oper} {v:Value} {fuel:Nat} {listed:Array Bool} {a:Act} {w:World} (hi:ops.toList.drop i=oi::rest)
  (hr:(Region.noSelect ops&&Region.free md ops listed i&&((Region.ready md ops listed).contains i&&i != d))=true)
  (hQ:∀ c a w,Q (.panic c) (a.put oi.dst v) w->Q (.panic c) a w) (hg:Region.wanted oi (yielded ops a.tmps)=true)
  (hy:∀ w,A w->(execOp a.eval oi).run P w=.ok (.value v) w) (hS:Till A B d listed w)
  (h:Till A B d (listed.setIfInBounds i true) w->wpTill P md ops Q A B d fuel (listed.setIfInBounds i true) (a.put oi.dst v) w):wpTill P md ops Q A B d (fuel+1) listed a w:=by
 simp only[Bool.and_eq_true] at hr
 exact Z0u hi hr.1.1 hr.1.2 (by simpa using hr.2) hQ hg hy hS h
theorem Ul {i:Nat} {oi:Oper} {rest:List Oper} {v:Value} {fuel:Nat} {listed:Array Bool} {a:Act} {w:World} (hi:ops.toList.drop i=oi::rest)
  (hs:Region.noSelect ops=true) (hf:Region.free md ops listed i=true) (hr:((Region.ready md ops listed).contains i&&i != d&&TX md ops d i&&!listed.getD d true)=true)
  (hQ:∀ c a w,Q (.panic c) (a.put oi.dst v) w->Q (.panic c) a w) (hg:Region.wanted oi (yielded ops a.tmps)=true)
  (hy:∀ w,B w->(execOp a.eval oi).run P w=.ok (.value v) w) (hS:Till A B d listed w)
  (h:Till A B d (listed.setIfInBounds i true) w->wpTill P md ops Q A B d fuel (listed.setIfInBounds i true) (a.put oi.dst v) w):wpTill P md ops Q A B d (fuel+1) listed a w:=by
 have hi:=YN hi;simp only[Bool.and_eq_true,Bool.not_eq_true'] at hr
 obtain⟨⟨⟨hr,hid⟩,hw⟩,hl⟩:=hr;have hid:i≠d:=by simpa using hid
 exact YV (C:=B) true hi hid (fun w _ h=>h rfl) (fun _ l hl=>TW hw l hl) (Region.noSelect_spec hs) hQ fuel listed a w (Region.free_spec hi hf) (by simpa using hr) (fun _=>hl) (.inl ⟨hg,.inl hy⟩) hS
  (h ⟨hS.1,by rw[getD_set_ne true hid]; exact hS.2⟩)
theorem QV {i:Nat} {oi:Oper} {rest:List Oper} {v:Value} {f:FuncId} {args:Array Value} {fuel:Nat} {listed:Array Bool} {a:Act} {w:World} (hi:ops.toList.drop i=oi::rest)
  (hs:Region.noSelect ops=true) (hf:Region.free md ops listed i=true) (hr:((Region.ready md ops listed).contains i&&i != d)=true)
  (hQ:∀ c a w,Q (.panic c) (a.put oi.dst v) w->Q (.panic c) a w) (hg:Region.wanted oi (yielded ops a.tmps)=true)
  (hy:∀ w,A w->(execOp a.eval oi).run P w=.ok (.enter f args) w) (hc:∀ w,A w->Calls P f args w fun e w'=>e=.returned v∧w'=w) (hS:Till A B d listed w)
  (h:Till A B d (listed.setIfInBounds i true) w->wpTill P md ops Q A B d fuel (listed.setIfInBounds i true) (a.put oi.dst v) w):wpTill P md ops Q A B d (fuel+1) listed a w:=by
 have hi:=YN hi;obtain⟨hr,hid⟩:(Region.ready md ops listed).contains i=true∧i≠d:=by simpa using hr
 exact YV (C:=A) false hi hid (fun w h _=>h) (fun e=>by cases e) (Region.noSelect_spec hs) hQ fuel listed a w (Region.free_spec hi hf) (by simpa using hr) (fun e=>by cases e) (.inl ⟨hg,.inr ⟨f,args,hy,hc⟩⟩) hS
  (h ⟨hS.1,by rw[getD_set_ne true hid]; exact hS.2⟩)
theorem Z0 {i:Nat} {o:Oper} {rest:List Oper} {fuel:Nat} {listed:Array Bool} {a:Act} {w:World} (ho:ops.toList.drop i=o::rest) (hr:Region.ready md ops listed=[i])
  (h:∀ K':Act->World->Prop,Shut (∀ a w,Till A B d (listed.setIfInBounds i true) w->(Till A B d (listed.setIfInBounds i true) w->wpTill P md ops Q A B d fuel (listed.setIfInBounds i true) a w)->K' a w) ->
   if Region.wanted o (yielded ops a.tmps)=true then Oper.wp P o a w K' Q else K' (a.put o.dst undef) w):wpTill P md ops Q A B d (fuel+1) listed a w:=by
 refine⟨fun h0=>(by rw[hr] at h0; cases h0),fun j hj=>?_⟩
 rw[hr] at hj;obtain rfl:j=i:=by simpa using hj
 exact wpOp_step (YN ho) fun K' hK=>h K' fun a w hS hW=>hK a w ⟨hS,hW hS⟩
theorem Xe {i j:Nat} {o o2:Oper} {rest rest2:List Oper} {fuel:Nat} {listed:Array Bool} {a:Act} {w:World} (ho:ops.toList.drop i=o::rest) (ho2:ops.toList.drop j=o2::rest2) (hr:Region.ready md ops listed=[i,j])
  (h:∀ K':Act->World->Prop,Shut (∀ a w,Till A B d (listed.setIfInBounds i true) w->(Till A B d (listed.setIfInBounds i true) w->wpTill P md ops Q A B d fuel (listed.setIfInBounds i true) a w)->K' a w) ->
   if Region.wanted o (yielded ops a.tmps)=true then Oper.wp P o a w K' Q else K' (a.put o.dst undef) w)
  (h2:∀ K':Act->World->Prop,Shut (∀ a w,Till A B d (listed.setIfInBounds j true) w->(Till A B d (listed.setIfInBounds j true) w->wpTill P md ops Q A B d fuel (listed.setIfInBounds j true) a w)->K' a w) ->
   if Region.wanted o2 (yielded ops a.tmps)=true then Oper.wp P o2 a w K' Q else K' (a.put o2.dst undef) w):wpTill P md ops Q A B d (fuel+1) listed a w:=by
 refine⟨fun h0=>(by rw[hr] at h0; cases h0),fun k hk=>?_⟩
 rw[hr] at hk;simp only[List.mem_cons,List.not_mem_nil,or_false] at hk
 rcases hk with rfl | rfl
 ·exact wpOp_step (YN ho) fun K' hK=>h K' fun a w hS hW=>hK a w ⟨hS,hW hS⟩
 ·exact wpOp_step (YN ho2) fun K' hK=>h2 K' fun a w hS hW=>hK a w ⟨hS,hW hS⟩
theorem VQ {i j m:Nat} {o o2 o3:Oper} {rest rest2 rest3:List Oper} {fuel:Nat} {listed:Array Bool} {a:Act} {w:World} (ho:ops.toList.drop i=o::rest) (ho2:ops.toList.drop j=o2::rest2) (ho3:ops.toList.drop m=o3::rest3) (hr:Region.ready md ops listed=[i,j,m])
  (h:∀ K':Act->World->Prop,Shut (∀ a w,Till A B d (listed.setIfInBounds i true) w->(Till A B d (listed.setIfInBounds i true) w->wpTill P md ops Q A B d fuel (listed.setIfInBounds i true) a w)->K' a w) ->
   if Region.wanted o (yielded ops a.tmps)=true then Oper.wp P o a w K' Q else K' (a.put o.dst undef) w)
  (h2:∀ K':Act->World->Prop,Shut (∀ a w,Till A B d (listed.setIfInBounds j true) w->(Till A B d (listed.setIfInBounds j true) w->wpTill P md ops Q A B d fuel (listed.setIfInBounds j true) a w)->K' a w) ->
   if Region.wanted o2 (yielded ops a.tmps)=true then Oper.wp P o2 a w K' Q else K' (a.put o2.dst undef) w)
  (h3:∀ K':Act->World->Prop,Shut (∀ a w,Till A B d (listed.setIfInBounds m true) w->(Till A B d (listed.setIfInBounds m true) w->wpTill P md ops Q A B d fuel (listed.setIfInBounds m true) a w)->K' a w) ->
   if Region.wanted o3 (yielded ops a.tmps)=true then Oper.wp P o3 a w K' Q else K' (a.put o3.dst undef) w):wpTill P md ops Q A B d (fuel+1) listed a w:=by
 refine⟨fun h0=>(by rw[hr] at h0; cases h0),fun k hk=>?_⟩
 rw[hr] at hk;simp only[List.mem_cons,List.not_mem_nil,or_false] at hk
 rcases hk with rfl | rfl | rfl
 ·exact wpOp_step (YN ho) fun K' hK=>h K' fun a w hS hW=>hK a w ⟨hS,hW hS⟩
 ·exact wpOp_step (YN ho2) fun K' hK=>h2 K' fun a w hS hW=>hK a w ⟨hS,hW hS⟩
 ·exact wpOp_step (YN ho3) fun K' hK=>h3 K' fun a w hS hW=>hK a w ⟨hS,hW hS⟩
theorem Zw {listed:Array Bool} {a:Act} {w:World} (hr:Region.ready md ops listed=[]) (h:Q .normal a w):
  ∀ fuel,wpTill P md ops Q A B d fuel listed a w
 | 0=>⟨hr,h⟩
 | _+1=>⟨fun _=>h,by rw[hr]; simp⟩
theorem Zq {id:Nat} {a:Act} {w:World} (A B:World->Prop) (d:Nat) (hm:P.follows .mixedOrders=true) (hA:A w.drew) (hB:B w.drew)
  (h:Till A B d (Array.replicate ops.size false) w.drew->wpTill P .any ops Q A B d ops.size (Array.replicate ops.size false) a w.drew):(Code.region id ops true).wp P Q a w:=
 wp_region_any hm (V5 _ _ _ _ (h ⟨hA,fun _=>hB⟩))
end
end Go.Proofs.YtdnacpbgodooaaaGreatDoor
