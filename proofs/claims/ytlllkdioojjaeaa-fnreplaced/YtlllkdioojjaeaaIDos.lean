/-
 Texts that are laid as one: ICopy, IDo.
-/
import Derived.Test.YtlllkdioojjaeaaNewPs
import Derived.Test.YtlllkdioojjaeaaSActs
namespace Go.Proofs.Ytlllkdioojjaeaa
open Go.RowKit
set_option linter.unusedVariables false
set_option maxRecDepth 100000 in
set_option maxHeartbeats 8000000 in
theorem impl_copy (a1 a2 a3:Option Addr) (c1 c2 c3:Nat) (live safe:List PairL) (ops:List DOpL) (w:World) (ha1:AddrOk a1) (hc1:a1=none→c1=0) (ha2:AddrOk a2) (hc2:a2=none→c2=0) (ha3:AddrOk a3) (hc3:a3=none→c3=0) (hl1:live.length≤1048576) (hl2:safe.length≤1048576) (hl3:ops.length≤1048576)
 (hs1:IsPairs w a1 live) (hs2:IsPairs w a2 safe) (hs3:IsDOps w a3 ops) :
 Calls Try.prog 56 #[.agg #[.slice a1 live.length c1,.slice a2 safe.length c2,.slice a3 ops.length c3]] w fun e w'=>IPost w w' e live safe ops:=by
 obtain⟨wa,hwa⟩:∃ wa,wa=(w.alloc (.cells #[.slice a1 live.length c1,.slice a2 safe.length c2,.slice a3 ops.length c3] 31)).alloc (.cells #[.slice none 0 0,.slice none 0 0,.slice none 0 0] 31):=⟨_,rfl⟩
 have B1:Below w.heap.size w wa:=by rw[hwa];exact ((Below.refl _ _).alloc (Nat.le_refl _) _).alloc (by simp) _
 have H1:Hid (wa.heap[w.heap.size]? = some (.cells #[.slice a1 live.length c1,.slice a2 safe.length c2,.slice a3 ops.length c3] 31 (0,0))):=by rw[hwa,Hid,Below.heap_alloc _ _ _ (by simp)];exact heap_alloc_new w _
 have R1:Hid (wa.heap[w.heap.size+1]? = some (.cells #[.slice none 0 0,.slice none 0 0,.slice none 0 0] 31 (0,0))):=by
  rw[hwa,Hid]
  have:=heap_alloc_new (w.alloc (.cells #[.slice a1 live.length c1,.slice a2 safe.length c2,.slice a3 ops.length c3] 31)) (.cells #[.slice none 0 0,.slice none 0 0,.slice none 0 0] 31)
  simpa using this
 have s1:w.heap.size+1<wa.heap.size:=lt_of_block R1.out
 have HC:Hid (∀ W,Below wa.heap.size wa W→W.cell? ⟨w.heap.size,0,none⟩=some (.slice a1 live.length c1)∧W.cell? ⟨w.heap.size,1,none⟩=some (.slice a2 safe.length c2)∧W.cell? ⟨w.heap.size,2,none⟩=some (.slice a3 ops.length c3)):=fun W hW=>by
  obtain⟨u0,u1,u2,_⟩:=three_cells ((hW.block _ (lt_of_block H1.out)).trans H1.out)
  exact⟨u0,u1,u2⟩
 have HK1:Hid (∀ W,Below wa.heap.size wa W→Calls Try.prog 61 #[.slice a1 live.length c1] W fun e w'=>∃ (a:Option Addr) (c:Nat),e=.returned (.slice a live.length c)∧w'.ownsRow W.heap.size 84 2 (.slice a live.length c) live.length (pcells live)∧Below W.heap.size W w'):=fun W hW=>clone_filesN a1 c1 live W hl1 hc1 ha1 (hs1.later (B1.trans (hW.mono B1.size)))
 have HK2:Hid (∀ W,Below wa.heap.size wa W→Calls Try.prog 61 #[.slice a2 safe.length c2] W fun e w'=>∃ (a:Option Addr) (c:Nat),e=.returned (.slice a safe.length c)∧w'.ownsRow W.heap.size 84 2 (.slice a safe.length c) safe.length (pcells safe)∧Below W.heap.size W w'):=fun W hW=>clone_filesN a2 c2 safe W hl2 hc2 ha2 (hs2.later (B1.trans (hW.mono B1.size)))
 have HK3:Hid (∀ W,Below wa.heap.size wa W→Calls Try.prog 84 #[.slice a3 ops.length c3] W fun e w'=>∃ (a:Option Addr) (c:Nat),e=.returned (.slice a ops.length c)∧w'.ownsRow W.heap.size 40 4 (.slice a ops.length c) ops.length (dcells ops)∧Below W.heap.size W w'):=fun W hW=>clone_dopsN a3 c3 ops W hl3 hc3 ha3 (hs3.later (B1.trans (hW.mono B1.size)))
 have BR:Below wa.heap.size wa wa.drew:=⟨rfl,rfl,rfl,Nat.le_refl _,fun _ _=>rfl⟩
 unfold IPost
 clear hs1 hs2 hs3
 go_enter Try.func56,Try.ntmps56
 go_wp2_with fail
 rw[←hwa]
 clear hwa
 go_region_held3 (fun w'=>w'.cell? ⟨w.heap.size,0,none⟩=some (.slice a1 live.length c1)∧w'.cell? ⟨w.heap.size,1,none⟩=some (.slice a2 safe.length c2)∧w'.cell? ⟨w.heap.size,2,none⟩=some (.slice a3 ops.length c3))
  (first | with_reducible exact S15.out | with_reducible exact HC.out _ B11.out | with_reducible exact HC.out _ B8.out | with_reducible exact HC.out _ B5.out | with_reducible exact HC.out _ BR)
  (first
   | (go_at_call 84
      with_reducible refine (HK3.out w8 B8.out).mono ?_
      rintro e w11 ⟨a11,k11,rfl,o11,b11⟩
      have B11:Hid (Below wa.heap.size wa w11):=B8.out.trans (b11.mono B8.out.size)
      have O5c:Hid (w11.ownsRow wa.heap.size 84 2 (.slice a5 live.length k5) live.length (pcells live)):=kept2 O5b.out b11
      have O8b:Hid (w11.ownsRow wa.heap.size 84 2 (.slice a8 safe.length k8) safe.length (pcells safe)):=kept2 O8.out b11
      have O11:Hid (w11.ownsRow wa.heap.size 40 4 (.slice a11 ops.length k11) ops.length (dcells ops)):=o11.mono B8.out.size
      have AP2:Hid (∀ q,((Value.slice a5 live.length k5).ownBlock=some q→(Value.slice a11 ops.length k11).ownBlock≠some q)∧((Value.slice a8 safe.length k8).ownBlock=some q→(Value.slice a11 ops.length k11).ownBlock≠some q)):=fun q=>⟨fun h1 h2=>by have:=(O5b.out.lt q h1).2;have:=(o11.lt q h2).1;omega,fun h1 h2=>by have:=(O8.out.lt q h1).2;have:=(o11.lt q h2).1;omega⟩
      have Y14:Hid (w11.heap[w.heap.size+1]? = some (.cells #[.slice none 0 0,.slice none 0 0,.slice none 0 0] 31 (0,0))):=(B11.out.block _ (lt_of_block R1.out)).trans R1.out
      have X14:Hid (w11.heap[w.heap.size]? = some (.cells #[.slice a1 live.length c1,.slice a2 safe.length c2,.slice a3 ops.length c3] 31 (0,0))):=(B11.out.block _ (lt_of_block H1.out)).trans H1.out
      have S15:Hid ((((w11.setCell ⟨w.heap.size+1,0,none⟩ (.slice a5 live.length k5)).setCell ⟨w.heap.size+1,1,none⟩ (.slice a8 safe.length k8)).setCell ⟨w.heap.size+1,2,none⟩ (.slice a11 ops.length k11)).cell? ⟨w.heap.size,0,none⟩=some (.slice a1 live.length c1)∧(((w11.setCell ⟨w.heap.size+1,0,none⟩ (.slice a5 live.length k5)).setCell ⟨w.heap.size+1,1,none⟩ (.slice a8 safe.length k8)).setCell ⟨w.heap.size+1,2,none⟩ (.slice a11 ops.length k11)).cell? ⟨w.heap.size,1,none⟩=some (.slice a2 safe.length c2)∧(((w11.setCell ⟨w.heap.size+1,0,none⟩ (.slice a5 live.length k5)).setCell ⟨w.heap.size+1,1,none⟩ (.slice a8 safe.length k8)).setCell ⟨w.heap.size+1,2,none⟩ (.slice a11 ops.length k11)).cell? ⟨w.heap.size,2,none⟩=some (.slice a3 ops.length c3)):=by
       obtain⟨u0,u1,u2,_⟩:=three_cells ((Below.heap_setCell (w11.setCell ⟨w.heap.size+1,0,none⟩ (.slice a5 live.length k5) |>.setCell ⟨w.heap.size+1,1,none⟩ (.slice a8 safe.length k8)) ⟨w.heap.size+1,2,none⟩ (.slice a11 ops.length k11) w.heap.size (by simp)).trans ((Below.heap_setCell _ _ _ _ (by simp)).trans ((Below.heap_setCell _ _ _ _ (by simp)).trans X14.out)))
       exact⟨u0,u1,u2⟩
      obtain⟨r0,r1,r2,rf⟩:=three_cells Y14.out
      have rf0:=rf 0
      have rf1:=rf 1
      have rf2:=rf 2
      clear o11 b11 rf)
   | (go_at_call 61
      with_reducible refine (HK2.out w5 B5.out).mono ?_
      rintro e w8 ⟨a8,k8,rfl,o8,b8⟩
      have B8:Hid (Below wa.heap.size wa w8):=B5.out.trans (b8.mono B5.out.size)
      have O5b:Hid (w8.ownsRow wa.heap.size 84 2 (.slice a5 live.length k5) live.length (pcells live)):=kept2 O5.out b8
      have O8:Hid (w8.ownsRow wa.heap.size 84 2 (.slice a8 safe.length k8) safe.length (pcells safe)):=o8.mono B5.out.size
      have AP1:Hid (∀ q,(Value.slice a5 live.length k5).ownBlock=some q→(Value.slice a8 safe.length k8).ownBlock≠some q):=fun q h1 h2=>by have:=(O5.out.lt q h1).2;have:=(o8.lt q h2).1;omega
      clear o8 b8)
   | (go_at_call 61
      with_reducible refine (HK1.out wa.drew BR).mono ?_
      rintro e w5 ⟨a5,k5,rfl,o5,b5⟩
      have B5:Hid (Below wa.heap.size wa w5):=BR.trans (b5.mono BR.size)
      have O5:Hid (w5.ownsRow wa.heap.size 84 2 (.slice a5 live.length k5) live.length (pcells live)):=o5
      clear o5 b5))
 all_goals
  have y1:=dk_set (j:=0) (z:=.slice a5 live.length k5) Y14.out
  have y2:=dk_set (j:=1) (z:=.slice a8 safe.length k8) y1
  have y3:=dk_set (j:=2) (z:=.slice a11 ops.length k11) y2
  have HY:Hid (_=_):=y3
  have N1:Hid ((((w11.setCell ⟨w.heap.size+1,0,none⟩ (.slice a5 live.length k5)).setCell ⟨w.heap.size+1,1,none⟩ (.slice a8 safe.length k8)).setCell ⟨w.heap.size+1,2,none⟩ (.slice a11 ops.length k11)).ownsRow w.heap.size 84 2 (.slice a5 live.length k5) live.length (pcells live)):=(own_set (own_set (own_set O5c.out _ s1 _) _ s1 _) _ s1 _).mono (by omega)
  have N2:Hid ((((w11.setCell ⟨w.heap.size+1,0,none⟩ (.slice a5 live.length k5)).setCell ⟨w.heap.size+1,1,none⟩ (.slice a8 safe.length k8)).setCell ⟨w.heap.size+1,2,none⟩ (.slice a11 ops.length k11)).ownsRow w.heap.size 84 2 (.slice a8 safe.length k8) safe.length (pcells safe)):=(own_set (own_set (own_set O8b.out _ s1 _) _ s1 _) _ s1 _).mono (by omega)
  have N3:Hid ((((w11.setCell ⟨w.heap.size+1,0,none⟩ (.slice a5 live.length k5)).setCell ⟨w.heap.size+1,1,none⟩ (.slice a8 safe.length k8)).setCell ⟨w.heap.size+1,2,none⟩ (.slice a11 ops.length k11)).ownsRow w.heap.size 40 4 (.slice a11 ops.length k11) ops.length (dcells ops)):=(own_set (own_set (own_set O11.out _ s1 _) _ s1 _) _ s1 _).mono (by omega)
  have HBB:Hid (Below w.heap.size w (((w11.setCell ⟨w.heap.size+1,0,none⟩ (.slice a5 live.length k5)).setCell ⟨w.heap.size+1,1,none⟩ (.slice a8 safe.length k8)).setCell ⟨w.heap.size+1,2,none⟩ (.slice a11 ops.length k11))):=(((B1.trans (B11.out.mono B1.size)).setCell (by simp) _).setCell (by simp) _).setCell (by simp) _
  clear y1 y2 y3 H1 R1 HC HK1 HK2 HK3
  go_wp2
  exact bodyPost_ret (v:=.agg #[.slice a5 live.length k5,.slice a8 safe.length k8,.slice a11 ops.length k11]) (results_cell_row rfl _ _ (w.heap.size+1) 31 _ (0,0) _ rfl HY.out Try.underlying31 rfl (by kernel_rfl)) rfl ⟨a5,a8,a11,k5,k8,k11,rfl,N1.out,N2.out,N3.out,fun q=>⟨fun h=>⟨AP1.out q h,(AP2.out q).1 h⟩,fun h=>(AP2.out q).2 h⟩,HBB.out⟩
def JPost (W w':World) (e:Ending) (r:List PairL × List PairL × List DOpL × Int):Prop :=
 ∃ (x1 x2 x3:Option Addr) (k1 k2 k3:Nat),e=.returned (.tuple #[.agg #[.slice x1 r.1.length k1,.slice x2 r.2.1.length k2,.slice x3 r.2.2.1.length k3],.int .i64 r.2.2.2])∧w'.ownsRow W.heap.size 84 2 (.slice x1 r.1.length k1) r.1.length (pcells r.1)∧w'.ownsRow W.heap.size 84 2 (.slice x2 r.2.1.length k2) r.2.1.length (pcells r.2.1)∧w'.ownsRow W.heap.size 40 4 (.slice x3 r.2.2.1.length k3) r.2.2.1.length (dcells r.2.2.1)∧Apart3 (.slice x1 r.1.length k1) (.slice x2 r.2.1.length k2) (.slice x3 r.2.2.1.length k3)∧Below W.heap.size W w'
theorem same_post {w W:World} {s1:Nat} {live safe:List PairL} {ops:List DOpL} {r:List PairL × List PairL × List DOpL × Int} {code:Int} {x1 x2 x3:Option Addr} {k1 k2 k3 ln:Nat}
 (he:r=(live,safe,ops,code)) (hln:ln=ops.length) (o1:W.ownsRow s1 84 2 (.slice x1 live.length k1) live.length (pcells live)) (o2:W.ownsRow s1 84 2 (.slice x2 safe.length k2) safe.length (pcells safe)) (o3:W.ownsRow s1 40 4 (.slice x3 ln k3) ln (dcells ops)) (ap:Apart3 (.slice x1 live.length k1) (.slice x2 safe.length k2) (.slice x3 ln k3)) (hs:(w.heap.size+1+1)<s1) (hb:Below w.heap.size w W) :
 JPost w (((W.setCell ⟨w.heap.size+1+1,0,none⟩ (.slice x1 live.length k1)).setCell ⟨w.heap.size+1+1,1,none⟩ (.slice x2 safe.length k2)).setCell ⟨w.heap.size+1+1,2,none⟩ (.slice x3 ln k3)) (.returned (.tuple #[.agg #[.slice x1 live.length k1,.slice x2 safe.length k2,.slice x3 ln k3],.int .i64 code])) r:=by
 subst hln
 rw[he]
 have z9:=hb.size
 exact⟨x1,x2,x3,k1,k2,k3,rfl,(own_set (own_set (own_set o1 _ hs _) _ hs _) _ hs _).mono (by omega),(own_set (own_set (own_set o2 _ hs _) _ hs _) _ hs _).mono (by omega),(own_set (own_set (own_set o3 _ hs _) _ hs _) _ hs _).mono (by omega),ap,((hb.setCell (by simp only;omega) _).setCell (by simp only;omega) _).setCell (by simp only;omega) _⟩
theorem own_via {B:Nat} {w W W':World} {e size n:Nat} {v:Value} {xs:List Value} (h1:Below B w W) (hB:B≤w.heap.size) (h2:W'.ownsRow W.heap.size e size v n xs):W'.ownsRow B e size v n xs:=h2.mono (Nat.le_trans hB h1.size)
theorem blk_via {W W':World} (h:Below W.heap.size W W'):∀ (B:Nat) (o:Obj),W.heap[B]? = some o→W'.heap[B]? = some o:=fun B o ho=>by
 rw[h.block B (Array.getElem?_eq_some_iff.1 ho).1];exact ho
theorem at_via {w W:World} {g:Nat} {p:Option Nat} (h1:Below w.heap.size w W) (h:p=some g∨g=W.heap.size):p=some g∨w.heap.size≤g:=by
 rcases h with h | h
 · exact .inl h
 · exact .inr (by rw[h];exact h1.size)
theorem own_base1 {s1 s2 s3 s5 ln b:Nat} {w W:World} (h1:Below w.heap.size w W) (h:b<s1∧s1≤s2∧s2<s3∧s3≤s5∧s5≤w.heap.size∧ln≤1048576):s1≤W.heap.size:=by have:=h1.size;omega
theorem set3 {W:World} {b q0:Nat} {u v x:Value} (h:q0≠b):(((W.setCell ⟨b,0,none⟩ u).setCell ⟨b,1,none⟩ v).setCell ⟨b,2,none⟩ x).heap[q0]? = W.heap[q0]? := by
 rw[Below.heap_setCell _ _ _ _ h,Below.heap_setCell _ _ _ _ h,Below.heap_setCell _ _ _ _ h]
theorem step_append_own1 {P:Program} {W:World} {ops:Array Oper} {o:Oper} {a:Act} {K:Act→World→Prop} {Q:Exit→Act→World→Prop} {E:Prop} (hgd:o.guard=none) (s x:Operand) (t:TypeId)
 (ho:o.op=.call { callee:=.builtin .append,args:=#[s,x],argTypes:=#[t,t] })
 (base:Nat) (e:TypeId) (i:TypeInfo) (z:Value) (size bytes:Nat) (ht:P.underlying t=some (.slice e)) (hi:P.info? e=some i) (hz:i.zero=some z)
 (hsize:i.size=size) (hby:i.bytes=bytes) (hzs:z.cells.size=size) (hsz:0<size)
 (a1:Option Addr) (n c1:Nat) (xs:List Value) (row:Option Nat) (hs:a.eval s=.slice a1 n c1) (hown:GrowR W base e size a1 n c1 xs row)
 (B:Nat) (cs:Array Value) (hx:a.eval x=.slice (some ⟨B,0,none⟩) 1 1) (hb:W.heap[B]? = some (.cells cs e (0,0))) (hl:cs.size=size) (h1:∀ u∈cs.toList,u.oneCell'=true)
 (h63:n+1≤1048577) (hbytes:bytes≤64) (hbase:base≤W.heap.size)
 (h:∀ g cap w',w'.ownsRow base e size (.slice (some ⟨g,0,none⟩) (n+1) cap) (n+1) (xs ++ cs.toList)→W.grownBy w' row→(row=some g∨g=W.heap.size)→K (a.put o.dst (.slice (some ⟨g,0,none⟩) (n+1) cap)) w') :
 if Region.wanted o (yielded ops a.tmps)=true then Oper.wp P o a W K Q else E:=by
 have hw:Region.wanted o (yielded ops a.tmps)=true:=by simp[Region.wanted,hgd]
 rw[if_pos hw]
 obtain⟨g,cap,w',hr,h2,h3,h4⟩:=run_append_grow1 (P:=P) W t o.type base e i z size bytes ht hi hz hsize hby hzs hsz a1 n c1 xs row hown ⟨B,0,none⟩ 1 1 cs.toList (by simp[hl]) (World.news_of_block hb) h1 (by decide) h63 hbytes hbase
 unfold Oper.wp execOp
 simp only[ho,resolve,invoke,builtin,Sem.run_bind,Sem.run_pure,Result.andThen_ok,List.map_toArray,List.map_cons,List.map_nil,hs,hx,hr]
 exact h g cap w' h2 h3 h4
theorem do_mid {w w6 w8 W w9:World} {s1 s2:Nat} {x2 x3 a8:Option Addr} {k2 k3 k8 ln:Nat} {safe gs:List PairL}
 (b8:Below w6.heap.size w6 w8) (bW:Below w8.heap.size w8 W) (hg:W.grownBy w9 (Value.slice x3 ln k3).ownBlock) (o2:w6.ownsRow s1 84 2 (.slice x2 safe.length k2) safe.length (pcells safe)) (o8:w8.ownsRow w6.heap.size 84 2 (.slice a8 gs.length k8) gs.length (pcells gs))
 (h3:∀ q,(Value.slice x3 ln k3).ownBlock=some q→s1≤q∧q<s2) (ap:∀ q,(Value.slice x2 safe.length k2).ownBlock=some q→(Value.slice x3 ln k3).ownBlock≠some q) (hB:Below w.heap.size w w6) (hs:w.heap.size≤s1) (hs2:s2≤w6.heap.size) :
 w9.ownsRow s1 84 2 (.slice x2 safe.length k2) safe.length (pcells safe)∧w9.ownsRow w6.heap.size 84 2 (.slice a8 gs.length k8) gs.length (pcells gs)∧Below w.heap.size w w9∧∀ (b:Nat) (o:Obj),b<s1∨s2≤b→w6.heap[b]? = some o→w9.heap[b]? = some o:=by
 have bT:=b8.trans (bW.mono b8.size)
 have hBW:=hB.trans (bT.mono hB.size)
 refine⟨(kept2 o2 bT).kept hg ?_,(kept2 o8 bW).kept hg ?_,hBW.grown hg hBW.size (fun q hq=>by have:=h3 q hq;omega),fun b o hb ho=>?_⟩
 · cases hv:(Value.slice x2 safe.length k2).ownBlock with
   | none=>exact .inl rfl
   | some q=>exact .inr (fun e=>ap q hv e.symm)
 · cases hv:(Value.slice a8 gs.length k8).ownBlock with
   | none=>exact .inl rfl
   | some q=>exact .inr (fun e=>by have:=h3 q e.symm;have:=(o8.lt q hv).1;omega)
 · have h1:=blk_via bT b o ho
   rw[hg.block b (Array.getElem?_eq_some_iff.1 h1).1 (fun e=>by have:=h3 b e.symm;omega)]
   exact h1
theorem do_end {w w6 w8 w9:World} {s1:Nat} {x2 x3 a8:Option Addr} {k2 k3 k8 ln g9 cap9:Nat} {safe gs:List PairL} {ops:List DOpL} {k:Int} {n t d:List UInt8} {r:List PairL × List PairL × List DOpL × Int}
 (he:r=(gs,safe,ops ++ [⟨k,n,t,d⟩],0)) (hln:ln=ops.length) (ho:w9.ownsRow s1 40 4 (.slice (some ⟨g9,0,none⟩) (ln+1) cap9) (ln+1) (dcells ops ++ #[.int .i64 k,.string ⟨n.toArray⟩,.string ⟨t.toArray⟩,.string ⟨d.toArray⟩].toList)) (o2:w9.ownsRow s1 84 2 (.slice x2 safe.length k2) safe.length (pcells safe)) (og:w9.ownsRow w6.heap.size 84 2 (.slice a8 gs.length k8) gs.length (pcells gs)) (hb:Below w.heap.size w w9)
 (hat:(Value.slice x3 ln k3).ownBlock=some g9∨w8.heap.size≤g9) (ap:∀ q,(Value.slice x2 safe.length k2).ownBlock=some q→(Value.slice x3 ln k3).ownBlock≠some q) (p8:w8.ownsRow w6.heap.size 84 2 (.slice a8 gs.length k8) gs.length (pcells gs)) (p2:w6.ownsRow s1 84 2 (.slice x2 safe.length k2) safe.length (pcells safe)) (h68:w6.heap.size≤w8.heap.size) (hs:(w.heap.size+1+1)<s1) (h3:∀ q,(Value.slice x3 ln k3).ownBlock=some q→q<w6.heap.size) (h16:s1≤w6.heap.size) :
 JPost w (((w9.setCell ⟨w.heap.size+1+1,0,none⟩ (.slice a8 gs.length k8)).setCell ⟨w.heap.size+1+1,1,none⟩ (.slice x2 safe.length k2)).setCell ⟨w.heap.size+1+1,2,none⟩ (.slice (some ⟨g9,0,none⟩) (ln+1) cap9)) (.returned (.tuple #[.agg #[.slice a8 gs.length k8,.slice x2 safe.length k2,.slice (some ⟨g9,0,none⟩) (ln+1) cap9],.int .i64 0])) r:=by
 have hlen:(ops ++ [⟨k,n,t,d⟩]:List DOpL).length=ln+1:=by simp[hln]
 have z9:=hb.size
 have hs6:(w.heap.size+1+1)<w6.heap.size:=Nat.lt_of_lt_of_le hs h16
 have h0:w9.ownsRow s1 40 4 (.slice (some ⟨g9,0,none⟩) (ln+1) cap9) (ln+1) (dcells (ops ++ [⟨k,n,t,d⟩])):=by rw[dcells_app];exact ho
 rw[he]
 refine⟨a8,x2,some ⟨g9,0,none⟩,k8,k2,cap9,by rw[hlen],(own_set (own_set (own_set og _ hs6 _) _ hs6 _) _ hs6 _).mono (by omega),(own_set (own_set (own_set o2 _ hs _) _ hs _) _ hs _).mono (by omega),by rw[hlen];exact (own_set (own_set (own_set h0 _ hs _) _ hs _) _ hs _).mono (by omega),?_,((hb.setCell (by simp only;omega) _).setCell (by simp only;omega) _).setCell (by simp only;omega) _⟩
 rw[hlen]
 refine fun q=>⟨fun h1=>⟨fun h2=>?_,fun h2=>?_⟩,fun h1 h2=>?_⟩
 · have e1:=(p8.lt q h1).1
   have e2:=(p2.lt q h2).2
   omega
 · have e1:=p8.lt q h1
   have e2:g9=q:=by simpa [Value.ownBlock] using h2
   rcases hat with h | h
   · have:=h3 g9 h;omega
   · omega
 · have e1:=(p2.lt q h1).2
   have e2:g9=q:=by simpa [Value.ownBlock] using h2
   rcases hat with h | h
   · exact ap q h1 (by rw[h,e2])
   · omega
set_option maxRecDepth 100000 in
set_option maxHeartbeats 8000000 in
theorem impl_doX (a1 a2 a3 : Option Addr) (c1 c2 c3 : Nat) (live safe : List PairL) (ops : List DOpL) (k : Int) (n t d : List UInt8) (w : World) (ha1 : AddrOk a1) (hc1 : a1 = none → c1 = 0) (ha2 : AddrOk a2) (hc2 : a2 = none → c2 = 0) (ha3 : AddrOk a3) (hc3 : a3 = none → c3 = 0) (hl1 : live.length ≤ 1048576) (hm1 : ∀ p ∈ live, p.1.length ≤ 1048576 ∧ p.2.length ≤ 1048576) (hl2 : safe.length ≤ 1048576) (hm2 : ∀ p ∈ safe, p.1.length ≤ 1048576 ∧ p.2.length ≤ 1048576) (hl3 : ops.length ≤ 1048576) (hm3 : ∀ p ∈ ops, p.n.length ≤ 1048576 ∧ p.t.length ≤ 1048576 ∧ p.d.length ≤ 1048576) (hn : n.length ≤ 2097152) (ht : t.length ≤ 2097152) (hd : d.length ≤ 1048576)
 (hs1:IsPairs w a1 live) (hs2:IsPairs w a2 safe) (hs3:IsDOps w a3 ops) :
 Calls Try.prog 20 #[.agg #[.slice a1 live.length c1,.slice a2 safe.length c2,.slice a3 ops.length c3],.agg #[.int .i64 k,.string ⟨n.toArray⟩,.string ⟨t.toArray⟩,.string ⟨d.toArray⟩]] w fun e w'=>JPost w w' e (doL live safe ops ⟨k,n,t,d⟩):=by
 obtain⟨ln,hln⟩:∃ ln,ln=ops.length:=⟨_,rfl⟩
 have HLN:Hid (ln=ops.length):=hln
 obtain⟨j0,hj0,jz0,jz1,jz2⟩:=info_parts infoDOp
 obtain⟨wa,hwa⟩:∃ wa,wa=(((w.alloc (.cells #[.slice a1 live.length c1,.slice a2 safe.length c2,.slice a3 ln c3] 31)).alloc (.cells #[.int .i64 k,.string ⟨n.toArray⟩,.string ⟨t.toArray⟩,.string ⟨d.toArray⟩] 40)).alloc (.cells #[.slice none 0 0,.slice none 0 0,.slice none 0 0] 31)):=⟨_,rfl⟩
 have B0:Below w.heap.size w wa:=by rw[hwa];exact (((Below.refl _ _).alloc (Nat.le_refl _) _).alloc (by simp) _).alloc (by simp <;> omega) _
 have H0:Hid (wa.heap[w.heap.size]? = some (.cells #[.slice a1 live.length c1,.slice a2 safe.length c2,.slice a3 ln c3] 31 (0,0))):=by rw[hwa,Hid,Below.heap_alloc _ _ _ (by simp <;> omega),Below.heap_alloc _ _ _ (by simp)];exact heap_alloc_new w _
 have O0:Hid (wa.heap[(w.heap.size+1)]? = some (.cells #[.int .i64 k,.string ⟨n.toArray⟩,.string ⟨t.toArray⟩,.string ⟨d.toArray⟩] 40 (0,0))):=by
  rw[hwa,Hid,Below.heap_alloc _ _ _ (by simp)]
  have:=heap_alloc_new (w.alloc (.cells #[.slice a1 live.length c1,.slice a2 safe.length c2,.slice a3 ln c3] 31)) (.cells #[.int .i64 k,.string ⟨n.toArray⟩,.string ⟨t.toArray⟩,.string ⟨d.toArray⟩] 40)
  simpa using this
 have R0:Hid (wa.heap[(w.heap.size+1+1)]? = some (.cells #[.slice none 0 0,.slice none 0 0,.slice none 0 0] 31 (0,0))):=by
  rw[hwa,Hid]
  have:=heap_alloc_new ((w.alloc (.cells #[.slice a1 live.length c1,.slice a2 safe.length c2,.slice a3 ln c3] 31)).alloc (.cells #[.int .i64 k,.string ⟨n.toArray⟩,.string ⟨t.toArray⟩,.string ⟨d.toArray⟩] 40)) (.cells #[.slice none 0 0,.slice none 0 0,.slice none 0 0] 31)
  simpa using this
 obtain⟨p0,p1,p2,_⟩:=three_cells H0.out
 obtain⟨o0,o1,o2,o3,_⟩:=four_cells O0.out
 have KD:=impl_diskOk a1 a2 a3 c1 c2 c3 live safe ops wa hl1 hm1 hl2 hm2 hl3 hm3 (hs1.later B0) (hs2.later B0) (hs3.later B0)
 have HCP:Hid (∀ W,Below w.heap.size w W→Calls Try.prog 56 #[.agg #[.slice a1 live.length c1,.slice a2 safe.length c2,.slice a3 ops.length c3]] W fun e w'=>IPost W w' e live safe ops):=fun W hW=>impl_copy a1 a2 a3 c1 c2 c3 live safe ops W ha1 hc1 ha2 hc2 ha3 hc3 hl1 hl2 hl3 (hs1.later hW) (hs2.later hW) (hs3.later hW)
 unfold IPost at HCP
 have HS1:Hid (∀ W,Below w.heap.size w W→IsPairs W a1 live):=fun W h=>hs1.later h
 have HFL:Hid (diskOk live safe ops=true→filesOk live=true):=fun h=>by cases h1:filesOk live with | true=>rfl | false=>rw[disk_no1 h1] at h;cases h
 have HR:Hid (doL live safe ops ⟨k,n,t,d⟩=if diskOk live safe ops=true then actL live safe ops ⟨k,n,t,d⟩ else ([],[],[],1)):=rfl
 obtain⟨r,hr⟩:∃ r,r=doL live safe ops ⟨k,n,t,d⟩:=⟨_,rfl⟩
 rw[←hr] at HR ⊢
 obtain⟨dk,hdk⟩:∃ x,x=diskOk live safe ops:=⟨_,rfl⟩
 rw[←hdk] at KD HFL HR
 rw[←hln] at KD HCP
 rw[←hln]
 have HMM:Hid (n.length≤2097152∧t.length≤2097152∧d.length≤1048576∧ln≤1048576):=⟨hn,ht,hd,by rw[hln];exact hl3⟩
 clear hln hr hdk hs1 hs2 hs3 hm1 hm2 hm3 ha1 ha2 ha3 hc1 hc2 hc3 hl1 hl2 hl3 hn ht hd
 rw[hwa] at KD p0 p1 p2 o0 o1 o2 o3
 go_enter Try.func20,Try.ntmps20
 go_wp2_with fail
 refine KD.mono ?_
 rintro e w1 ⟨rfl,b1⟩
 rw[←hwa] at b1
 have B1:Below w.heap.size w w1:=B0.trans (b1.mono B0.size)
 have H1:Hid (w1.heap[w.heap.size]? = some (.cells #[.slice a1 live.length c1,.slice a2 safe.length c2,.slice a3 ln c3] 31 (0,0))):=(b1.block _ (lt_of_block H0.out)).trans H0.out
 have O1:Hid (w1.heap[(w.heap.size+1)]? = some (.cells #[.int .i64 k,.string ⟨n.toArray⟩,.string ⟨t.toArray⟩,.string ⟨d.toArray⟩] 40 (0,0))):=(b1.block _ (lt_of_block O0.out)).trans O0.out
 have R1:Hid (w1.heap[(w.heap.size+1+1)]? = some (.cells #[.slice none 0 0,.slice none 0 0,.slice none 0 0] 31 (0,0))):=(b1.block _ (lt_of_block R0.out)).trans R0.out
 clear p0 p1 p2 o0 o1 o2 o3 KD b1 H0 O0 R0 B0 hwa
 cases dk with
 | false =>
   have EQ:Hid (r=([],[],[],1)):=HR.out
   obtain⟨r0,r1,r2,rf⟩:=three_cells R1.out
   have rf0:=rf 0
   have rf1:=rf 1
   have rf2:=rf 2
   have y1:=dk_set (j:=0) (z:=.slice none 0 0) R1.out
   have y2:=dk_set (j:=1) (z:=.slice none 0 0) y1
   have y3:=dk_set (j:=2) (z:=.slice none 0 0) y2
   have HY:Hid (_=_):=y3
   have HP:Hid (JPost w (((w1.setCell ⟨w.heap.size+1+1,0,none⟩ (.slice none 0 0)).setCell ⟨w.heap.size+1+1,1,none⟩ (.slice none 0 0)).setCell ⟨w.heap.size+1+1,2,none⟩ (.slice none 0 0)) (.returned (.tuple #[.agg #[.slice none 0 0,.slice none 0 0,.slice none 0 0],.int .i64 1])) r):=by
    rw[Hid,EQ.out]
    exact⟨none,none,none,0,0,0,rfl,World.ownsRow_nil _ _ _ _,World.ownsRow_nil _ _ _ _,World.ownsRow_nil _ _ _ _,fun q=>⟨fun h=>by simp[Value.ownBlock] at h,fun h=>by simp[Value.ownBlock] at h⟩,((B1.setCell (by simp only;omega) _).setCell (by simp only;omega) _).setCell (by simp only;omega) _⟩
   clear y1 y2 y3 rf EQ HR HFL HCP HS1
   go_wp2
   refine bodyPost_ret (v:=.tuple #[.agg #[.slice none 0 0,.slice none 0 0,.slice none 0 0],.int .i64 1]) (results_disk rfl _ _ (w.heap.size+1+1) 31 _ (0,0) _ _ rfl HY.out Try.underlying31 rfl (by kernel_rfl) rfl) rfl ?_
   exact HP.out
 | true =>
   have hf:filesOk live=true:=HFL.out rfl
   have EA:Hid (r=actL live safe ops ⟨k,n,t,d⟩):=HR.out
   have hsm:=files_small hf
   have hri:=rise_files hf
   have E1:Hid (formOk ⟨k,n,t,d⟩=false→r=(live,safe,ops,2)):=fun h=>by rw[EA.out,actL,if_pos h]
   have E2:Hid (formOk ⟨k,n,t,d⟩=true→(doF live ⟨k,n,t,d⟩).2=false→r=(live,safe,ops,3)):=fun h h2=>by rw[EA.out,actL,if_neg (by simp[h]),if_pos h2]
   have E3:Hid (formOk ⟨k,n,t,d⟩=true→(doF live ⟨k,n,t,d⟩).2=true→(ln=200∨(decide ((doF live ⟨k,n,t,d⟩).1.length≤60) && decide (dataN (doF live ⟨k,n,t,d⟩).1≤200000))=false)→r=(live,safe,ops,4)):=fun h h2 h3=>by rw[EA.out,actL,if_neg (by simp[h]),if_neg (by simp[h2]),if_pos (by rw[filesOk_fit (rise_do hri.1 _) (names_do hri.1 _ h hri.2.1),←HLN.out];exact h3)]
   have E4:Hid (formOk ⟨k,n,t,d⟩=true→(doF live ⟨k,n,t,d⟩).2=true→¬ (ln=200∨(decide ((doF live ⟨k,n,t,d⟩).1.length≤60) && decide (dataN (doF live ⟨k,n,t,d⟩).1≤200000))=false)→r=((doF live ⟨k,n,t,d⟩).1,safe,ops ++ [⟨k,n,t,d⟩],0)):=fun h h2 h3=>by rw[EA.out,actL,if_neg (by simp[h]),if_neg (by simp[h2]),if_neg (by rw[filesOk_fit (rise_do hri.1 _) (names_do hri.1 _ h hri.2.1),←HLN.out];exact h3)]
   have HDL:Hid (dataN (doF live ⟨k,n,t,d⟩).1≤1000000000000∧(doF live ⟨k,n,t,d⟩).1.length≤61∧∀ p∈(doF live ⟨k,n,t,d⟩).1,p.1.length≤16777216):=by
    have h1:=do_len hri.1 ⟨k,n,t,d⟩
    have h2:=hri.2.2.1
    have h9:=HMM.out
    have h8:=fun p hp=>do_small hri.1 ⟨k,n,t,d⟩ (A:=2097152) (M:=200000) (fun p hp=>by have:=hsm p hp;exact⟨by omega,by omega⟩) h9.1 h9.2.1 p hp
    have h3:=dataN_le2 (doF live ⟨k,n,t,d⟩).1 61 1248576 (by omega) (fun p hp=>by have:=(h8 p hp).2;simp only at this;omega)
    exact⟨by omega,by omega,fun p hp=>by have:=(h8 p hp).1;omega⟩
   have HDA:Hid ((datF live n).length≤200000):=datF_le (fun p hp=>(hsm p hp).2) _
   have HRI:Hid (Rise live):=hri.1
   have KBy:=fun W (hW:Below w.heap.size w W)=>impl_byName a1 c1 live W (by have:=hri.2.2.1;omega) (fun p hp=>by have:=hsm p hp;exact⟨by omega,by omega⟩) hri.1 (HS1.out W hW)
   have HKB:Hid (∀ W,Below w.heap.size w W→_):=KBy
   have hl60:live.length≤60:=hri.2.2.1
   have HL60:Hid (live.length≤60):=hl60
   have KF:=fun W=>impl_deedOf k n t d W (by have:=HMM.out;omega) (by have:=HMM.out;omega) (by have:=HMM.out;omega)
   obtain⟨fo,hfo⟩:∃ x,x=formOk ⟨k,n,t,d⟩:=⟨_,rfl⟩
   have HFO:Hid (fo=formOk ⟨k,n,t,d⟩):=hfo
   rw[←hfo] at E1 E2 E3 E4 KF
   have HKF:Hid (∀ W:World,_):=KF
   obtain⟨p0,p1,p2,_⟩:=three_cells H1.out
   have KC:=HCP.out w1 B1
   clear KBy KF hfo hsm hri hf HFL HR EA hl60 HCP HS1
   go_wp2_with fail
   refine KC.mono ?_
   rintro e w2 ⟨x1,x2,x3,k1,k2,k3,rfl,ox1,ox2,ox3,hap,b2⟩
   have HAP:Hid (Apart3 (.slice x1 live.length k1) (.slice x2 safe.length k2) (.slice x3 ln k3)):=hap
   have HX3:Hid (∀ q,(Value.slice x3 ln k3).ownBlock=some q→w1.heap.size≤q∧q<w2.heap.size):=fun q hq=>ox3.lt q hq
   have u1:(w.heap.size+1+1)<w1.heap.size:=lt_of_block R1.out
   have z12:w1.heap.size≤w2.heap.size:=b2.size
   have B2:Below w.heap.size w w2:=B1.trans (b2.mono B1.size)
   have H2:Hid (w2.heap[w.heap.size]? = some (.cells #[.slice a1 live.length c1,.slice a2 safe.length c2,.slice a3 ln c3] 31 (0,0))):=(b2.block _ (lt_of_block H1.out)).trans H1.out
   have O2:Hid (w2.heap[(w.heap.size+1)]? = some (.cells #[.int .i64 k,.string ⟨n.toArray⟩,.string ⟨t.toArray⟩,.string ⟨d.toArray⟩] 40 (0,0))):=(b2.block _ (lt_of_block O1.out)).trans O1.out
   have R2:Hid (w2.heap[(w.heap.size+1+1)]? = some (.cells #[.slice none 0 0,.slice none 0 0,.slice none 0 0] 31 (0,0))):=(b2.block _ (lt_of_block R1.out)).trans R1.out
   have BT:Below w2.heap.size w2 (w2.alloc (.cells #[.slice x1 live.length k1,.slice x2 safe.length k2,.slice x3 ln k3] 31)):=(Below.refl _ _).alloc (Nat.le_refl _) _
   have SZ:Hid ((w2.alloc (.cells #[.slice x1 live.length k1,.slice x2 safe.length k2,.slice x3 ln k3] 31)).heap[w2.heap.size]? = some (.cells #[.slice x1 live.length k1,.slice x2 safe.length k2,.slice x3 ln k3] 31 (0,0))):=heap_alloc_new w2 _
   have Bt:Below w.heap.size w (w2.alloc (.cells #[.slice x1 live.length k1,.slice x2 safe.length k2,.slice x3 ln k3] 31)):=B2.trans (BT.mono B2.size)
   have Ht:Hid ((w2.alloc (.cells #[.slice x1 live.length k1,.slice x2 safe.length k2,.slice x3 ln k3] 31)).heap[w.heap.size]? = some (.cells #[.slice a1 live.length c1,.slice a2 safe.length c2,.slice a3 ln c3] 31 (0,0))):=(BT.block _ (lt_of_block H2.out)).trans H2.out
   have Ot:Hid ((w2.alloc (.cells #[.slice x1 live.length k1,.slice x2 safe.length k2,.slice x3 ln k3] 31)).heap[(w.heap.size+1)]? = some (.cells #[.int .i64 k,.string ⟨n.toArray⟩,.string ⟨t.toArray⟩,.string ⟨d.toArray⟩] 40 (0,0))):=(BT.block _ (lt_of_block O2.out)).trans O2.out
   have Rt:Hid ((w2.alloc (.cells #[.slice x1 live.length k1,.slice x2 safe.length k2,.slice x3 ln k3] 31)).heap[(w.heap.size+1+1)]? = some (.cells #[.slice none 0 0,.slice none 0 0,.slice none 0 0] 31 (0,0))):=(BT.block _ (lt_of_block R2.out)).trans R2.out
   have St:=SZ
   have X1t:Hid ((w2.alloc (.cells #[.slice x1 live.length k1,.slice x2 safe.length k2,.slice x3 ln k3] 31)).ownsRow w1.heap.size 84 2 (.slice x1 live.length k1) live.length (pcells live)):=kept2 ox1 BT
   have X2t:Hid ((w2.alloc (.cells #[.slice x1 live.length k1,.slice x2 safe.length k2,.slice x3 ln k3] 31)).ownsRow w1.heap.size 84 2 (.slice x2 safe.length k2) safe.length (pcells safe)):=kept2 ox2 BT
   have X3t:Hid ((w2.alloc (.cells #[.slice x1 live.length k1,.slice x2 safe.length k2,.slice x3 ln k3] 31)).ownsRow w1.heap.size 40 4 (.slice x3 ln k3) ln (dcells ops)):=kept4 ox3 BT
   obtain⟨o0,o1,o2,o3,_⟩:=four_cells O2.out
   have i1:w.heap.size+1<w2.heap.size:=lt_of_block O2.out
   have i2:¬ w.heap.size+1=w2.heap.size:=by omega
   have i3:¬ w2.heap.size=w.heap.size+1:=by omega
   have KG:=HKF.out (w2.alloc (.cells #[.slice x1 live.length k1,.slice x2 safe.length k2,.slice x3 ln k3] 31))
   clear SZ BT B2 H2 O2 R2 ox1 ox2 ox3 hap b2 KC p0 p1 p2 H1 O1 R1 B1 HKF
   go_wp2_with fail
   refine KG.mono ?_
   rintro e w3 ⟨rfl,b3⟩
   clear KG o0 o1 o2 o3
   have B3:Below w.heap.size w w3:=Bt.trans (b3.mono Bt.size)
   have H3:Hid (w3.heap[w.heap.size]? = some (.cells #[.slice a1 live.length c1,.slice a2 safe.length c2,.slice a3 ln c3] 31 (0,0))):=(b3.block _ (lt_of_block Ht.out)).trans Ht.out
   have O3:Hid (w3.heap[(w.heap.size+1)]? = some (.cells #[.int .i64 k,.string ⟨n.toArray⟩,.string ⟨t.toArray⟩,.string ⟨d.toArray⟩] 40 (0,0))):=(b3.block _ (lt_of_block Ot.out)).trans Ot.out
   have R3:Hid (w3.heap[(w.heap.size+1+1)]? = some (.cells #[.slice none 0 0,.slice none 0 0,.slice none 0 0] 31 (0,0))):=(b3.block _ (lt_of_block Rt.out)).trans Rt.out
   have S3:Hid (w3.heap[w2.heap.size]? = some (.cells #[.slice x1 live.length k1,.slice x2 safe.length k2,.slice x3 ln k3] 31 (0,0))):=(b3.block _ (lt_of_block St.out)).trans St.out
   have X13:Hid (w3.ownsRow w1.heap.size 84 2 (.slice x1 live.length k1) live.length (pcells live)):=kept2 X1t.out b3
   have X23:Hid (w3.ownsRow w1.heap.size 84 2 (.slice x2 safe.length k2) safe.length (pcells safe)):=kept2 X2t.out b3
   have X33:Hid (w3.ownsRow w1.heap.size 40 4 (.slice x3 ln k3) ln (dcells ops)):=kept4 X3t.out b3
   clear Bt Ht Ot Rt St X1t X2t X3t
   have z23:w2.heap.size<w3.heap.size:=lt_of_block S3.out
   clear b3
   cases fo with
   | false =>
     obtain⟨dv,hdv⟩:∃ dv,dv=deedV ⟨k,n,t,d⟩:=⟨_,rfl⟩
     rw[←hdv]
     clear hdv
     have EQ:Hid (r=(live,safe,ops,2)):=E1.out rfl
     have HP:Hid (JPost w (((w3.setCell ⟨w.heap.size+1+1,0,none⟩ (.slice x1 live.length k1)).setCell ⟨w.heap.size+1+1,1,none⟩ (.slice x2 safe.length k2)).setCell ⟨w.heap.size+1+1,2,none⟩ (.slice x3 ln k3)) (.returned (.tuple #[.agg #[.slice x1 live.length k1,.slice x2 safe.length k2,.slice x3 ln k3],.int .i64 2])) r):=same_post EQ.out HLN.out X13.out X23.out X33.out HAP.out u1 B3
     obtain⟨y0,y1,y2,yf⟩:=three_cells S3.out
     obtain⟨r0,r1,r2,rf⟩:=three_cells R3.out
     have rf0:=rf 0
     have rf1:=rf 1
     have rf2:=rf 2
     have v1:=dk_set (j:=0) (z:=.slice x1 live.length k1) R3.out
     have v2:=dk_set (j:=1) (z:=.slice x2 safe.length k2) v1
     have v3:=dk_set (j:=2) (z:=.slice x3 ln k3) v2
     have HY:Hid (_=_):=v3
     clear v1 v2 v3 rf yf EQ E1 E2 E3 E4 HDL HKB
     go_wp2
     refine bodyPost_ret (v:=.tuple #[.agg #[.slice x1 live.length k1,.slice x2 safe.length k2,.slice x3 ln k3],.int .i64 2]) (results_disk rfl _ _ (w.heap.size+1+1) 31 _ (0,0) _ _ rfl HY.out Try.underlying31 rfl (by kernel_rfl) rfl) rfl ?_
     exact HP.out
   | true =>
     have hkk:nameOk n=true∧(k=1∨k=2∨k=3):=by
      have h9:=HFO.out.symm
      simp only[formOk,Bool.and_eq_true,decide_eq_true_eq] at h9
      exact⟨h9.2.1,by omega⟩
     have HDV:Hid (deedV ⟨k,n,t,d⟩=if k=1 then .iface 111 (.agg #[.string ⟨n.toArray⟩,.string ⟨d.toArray⟩]) else if k=2 then .iface 113 (.agg #[.string ⟨n.toArray⟩,.string ⟨t.toArray⟩]) else if k=3 then .iface 115 (.agg #[.string ⟨n.toArray⟩]) else .nilIface):=by rw[Hid,deedV];simp[hkk.1]
     have Eb:Hid ((doF live ⟨k,n,t,d⟩).2=false→r=(live,safe,ops,3)):=E2.out rfl
     have Ec:Hid ((doF live ⟨k,n,t,d⟩).2=true→(ln=200∨(decide ((doF live ⟨k,n,t,d⟩).1.length≤60) && decide (dataN (doF live ⟨k,n,t,d⟩).1≤200000))=false)→r=(live,safe,ops,4)):=E3.out rfl
     have Ed:Hid ((doF live ⟨k,n,t,d⟩).2=true→¬ (ln=200∨(decide ((doF live ⟨k,n,t,d⟩).1.length≤60) && decide (dataN (doF live ⟨k,n,t,d⟩).1≤200000))=false)→r=((doF live ⟨k,n,t,d⟩).1,safe,ops ++ [⟨k,n,t,d⟩],0)):=E4.out rfl
     obtain⟨_,hkk⟩:=hkk
     clear E1 E2 E3 E4 HFO
     rcases hkk with rfl | rfl | rfl
     · have eD := do_app live n t d
       have fA:=findsA n d
       have eV:deedV ⟨1,n,t,d⟩=.iface 111 (.agg #[.string ⟨n.toArray⟩,.string ⟨d.toArray⟩]):=by rw[HDV.out];simp
       rw[eV]
       rw[eD] at Eb Ec Ed HDL
       simp only at Eb Ec Ed HDL
       obtain⟨g2,hg2⟩:∃ g2,g2=true:=⟨_,rfl⟩
       obtain⟨gs,hgs⟩:∃ gs,gs=putL live n (datF live n ++ d):=⟨_,rfl⟩
       have HKD:Hid (∀ mb D S W,FMap W w3.heap.size mb 60 live D S→w3.heap.size≤W.heap.size→Calls Try.prog 135 #[.agg #[.string ⟨n.toArray⟩,.string ⟨d.toArray⟩],.map (some mb)] W fun e w'=>e=.returned (.bool g2)∧Below w3.heap.size W w'∧∃ D' S',FMap w' w3.heap.size mb (60+1) gs D' S'):=by rw[hg2,hgs];exact fun mb D S W hF hb=>impl_appendOn n d w3.heap.size mb 60 live D S W (by have:=HMM.out;omega) (by have:=HDA.out;have:=HMM.out;omega) (by omega) hb hF
       rw[←hgs] at Ec Ed HDL
       have Ec1:(ln=200∨(decide (gs.length≤60) && decide (dataN gs≤200000))=false)→r=(live,safe,ops,4):=by first | exact Ec.out rfl | exact Ec.out True.intro | exact Ec.out
       have Ed1:¬ (ln=200∨(decide (gs.length≤60) && decide (dataN gs≤200000))=false)→r=(gs,safe,ops ++ [⟨1,n,t,d⟩],0):=by first | exact Ed.out rfl | exact Ed.out True.intro | exact Ed.out
       replace Eb:Hid (g2=false→r=(live,safe,ops,3)):=fun h=>by rw[hg2] at h;cases h
       replace Ec:Hid (g2=true→(ln=200∨(decide (gs.length≤60) && decide (dataN gs≤200000))=false)→r=(live,safe,ops,4)):=by rw[hg2];exact fun _=>Ec1
       replace Ed:Hid (g2=true→¬ (ln=200∨(decide (gs.length≤60) && decide (dataN gs≤200000))=false)→r=(gs,safe,ops ++ [⟨1,n,t,d⟩],0)):=by rw[hg2];exact fun _=>Ed1
       clear eD hgs hg2 HDV HRI HDA eV
       clear Ec1 Ed1
       have KB:=HKB.out w3 B3
       obtain⟨p0,p1,p2,_⟩:=three_cells H3.out
       go_wp2_with fail
       refine KB.mono ?_
       rintro e w4 ⟨mb,rfl,b4,D0,S0,hF0⟩
       have hF4:=hF0.mono HL60.out
       have KD:=HKD.out mb D0 S0 w4 hF4 b4.size
       clear KB HKB HKD p0 p1 p2 hF0 hF4
       have B34:Hid (Below w3.heap.size w3 w4):=b4
       clear b4
       go_wp2_with fail
       refine KD.mono ?_
       rintro e w5 ⟨rfl,b5,D5,SS5,hF5⟩
       have b35:=B34.out.trans b5
       have HF5:Hid (FMap w5 w3.heap.size mb (60+1) gs D5 SS5):=hF5
       clear KD b5 B34 hF5
       have B5:Below w.heap.size w w5:=B3.trans (b35.mono B3.size)
       have H5:Hid (w5.heap[w.heap.size]? = some (.cells #[.slice a1 live.length c1,.slice a2 safe.length c2,.slice a3 ln c3] 31 (0,0))):=(b35.block _ (lt_of_block H3.out)).trans H3.out
       have O5:Hid (w5.heap[(w.heap.size+1)]? = some (.cells #[.int .i64 1,.string ⟨n.toArray⟩,.string ⟨t.toArray⟩,.string ⟨d.toArray⟩] 40 (0,0))):=(b35.block _ (lt_of_block O3.out)).trans O3.out
       have R5:Hid (w5.heap[(w.heap.size+1+1)]? = some (.cells #[.slice none 0 0,.slice none 0 0,.slice none 0 0] 31 (0,0))):=(b35.block _ (lt_of_block R3.out)).trans R3.out
       have S5:Hid (w5.heap[w2.heap.size]? = some (.cells #[.slice x1 live.length k1,.slice x2 safe.length k2,.slice x3 ln k3] 31 (0,0))):=(b35.block _ (lt_of_block S3.out)).trans S3.out
       have X15:Hid (w5.ownsRow w1.heap.size 84 2 (.slice x1 live.length k1) live.length (pcells live)):=kept2 X13.out b35
       have X25:Hid (w5.ownsRow w1.heap.size 84 2 (.slice x2 safe.length k2) safe.length (pcells safe)):=kept2 X23.out b35
       have X35:Hid (w5.ownsRow w1.heap.size 40 4 (.slice x3 ln k3) ln (dcells ops)):=kept4 X33.out b35
       clear B3 H3 O3 R3 S3 X13 X23 X33
       have z35:w3.heap.size≤w5.heap.size:=b35.size
       clear b35
       cases g2 with
       | false =>
         have EQ:Hid (r=(live,safe,ops,3)):=Eb.out rfl
         have HP:Hid (JPost w (((w5.setCell ⟨w.heap.size+1+1,0,none⟩ (.slice x1 live.length k1)).setCell ⟨w.heap.size+1+1,1,none⟩ (.slice x2 safe.length k2)).setCell ⟨w.heap.size+1+1,2,none⟩ (.slice x3 ln k3)) (.returned (.tuple #[.agg #[.slice x1 live.length k1,.slice x2 safe.length k2,.slice x3 ln k3],.int .i64 3])) r):=same_post EQ.out HLN.out X15.out X25.out X35.out HAP.out u1 B5
         obtain⟨y0,y1,y2,yf⟩:=three_cells S5.out
         obtain⟨r0,r1,r2,rf⟩:=three_cells R5.out
         have rf0:=rf 0
         have rf1:=rf 1
         have rf2:=rf 2
         have v1:=dk_set (j:=0) (z:=.slice x1 live.length k1) R5.out
         have v2:=dk_set (j:=1) (z:=.slice x2 safe.length k2) v1
         have v3:=dk_set (j:=2) (z:=.slice x3 ln k3) v2
         have HY:Hid (_=_):=v3
         clear v1 v2 v3 rf yf EQ Eb Ec Ed HDL HF5
         go_wp2
         refine bodyPost_ret (v:=.tuple #[.agg #[.slice x1 live.length k1,.slice x2 safe.length k2,.slice x3 ln k3],.int .i64 3]) (results_disk rfl _ _ (w.heap.size+1+1) 31 _ (0,0) _ _ rfl HY.out Try.underlying31 rfl (by kernel_rfl) rfl) rfl ?_
         exact HP.out
       | true =>
         have Ec2:Hid ((ln=200∨(decide (gs.length≤60) && decide (dataN gs≤200000))=false)→r=(live,safe,ops,4)):=Ec.out rfl
         have Ed2:Hid (¬ (ln=200∨(decide (gs.length≤60) && decide (dataN gs≤200000))=false)→r=(gs,safe,ops ++ [⟨1,n,t,d⟩],0)):=Ed.out rfl
         clear Eb Ec Ed
         by_cases h200:ln=200
         · subst h200
           have EQ:Hid (r=(live,safe,ops,4)):=Ec2.out (.inl rfl)
           have HP:Hid (JPost w (((w5.setCell ⟨w.heap.size+1+1,0,none⟩ (.slice x1 live.length k1)).setCell ⟨w.heap.size+1+1,1,none⟩ (.slice x2 safe.length k2)).setCell ⟨w.heap.size+1+1,2,none⟩ (.slice x3 200 k3)) (.returned (.tuple #[.agg #[.slice x1 live.length k1,.slice x2 safe.length k2,.slice x3 200 k3],.int .i64 4])) r):=same_post EQ.out HLN.out X15.out X25.out X35.out HAP.out u1 B5
           obtain⟨y0,y1,y2,yf⟩:=three_cells S5.out
           obtain⟨r0,r1,r2,rf⟩:=three_cells R5.out
           have rf0:=rf 0
           have rf1:=rf 1
           have rf2:=rf 2
           obtain⟨p0,p1,p2,_⟩:=three_cells H5.out
           have v1:=dk_set (j:=0) (z:=.slice x1 live.length k1) R5.out
           have v2:=dk_set (j:=1) (z:=.slice x2 safe.length k2) v1
           have v3:=dk_set (j:=2) (z:=.slice x3 200 k3) v2
           have HY:Hid (_=_):=v3
           clear v1 v2 v3 rf yf EQ Ec2 Ed2 HDL HF5
           go_wp2
           refine bodyPost_ret (v:=.tuple #[.agg #[.slice x1 live.length k1,.slice x2 safe.length k2,.slice x3 200 k3],.int .i64 4]) (results_disk rfl _ _ (w.heap.size+1+1) 31 _ (0,0) _ _ rfl HY.out Try.underlying31 rfl (by kernel_rfl) rfl) rfl ?_
           exact HP.out
         · obtain ⟨ft, hft⟩ : ∃ ft, ft = (decide (gs.length ≤ 60) && decide (dataN gs ≤ 200000)) := ⟨_, rfl⟩
           have h200':¬ (ln:Int)=200:=by omega
           have h200b:decide ((ln:Int)=200)=false:=decide_eq_false h200'
           have KT:=impl_fit w3.heap.size mb (60+1) gs D5 SS5 w5 HDL.out.1 HF5.out
           rw[←hft] at KT
           have Ec3:Hid (ft=false→r=(live,safe,ops,4)):=fun h=>Ec2.out (.inr (by rw[←hft];exact h))
           have Ed3:Hid (ft=true→r=(gs,safe,ops ++ [⟨1,n,t,d⟩],0)):=fun h=>Ed2.out (by rintro (h1 | h1);exact h200 h1;rw[←hft,h] at h1;cases h1)
           clear Ec2 Ed2 hft h200
           obtain⟨p0,p1,p2,_⟩:=three_cells H5.out
           go_wp2_with fail
           refine KT.mono ?_
           rintro e w6 ⟨rfl,b6⟩
           have HF6:Hid (FMap w6 w3.heap.size mb (60+1) gs D5 SS5):=HF5.out.below b6
           clear KT p0 p1 p2 HF5
           have B6:Below w.heap.size w w6:=B5.trans (b6.mono B5.size)
           have H6:Hid (w6.heap[w.heap.size]? = some (.cells #[.slice a1 live.length c1,.slice a2 safe.length c2,.slice a3 ln c3] 31 (0,0))):=(b6.block _ (lt_of_block H5.out)).trans H5.out
           have O6:Hid (w6.heap[(w.heap.size+1)]? = some (.cells #[.int .i64 1,.string ⟨n.toArray⟩,.string ⟨t.toArray⟩,.string ⟨d.toArray⟩] 40 (0,0))):=(b6.block _ (lt_of_block O5.out)).trans O5.out
           have R6:Hid (w6.heap[(w.heap.size+1+1)]? = some (.cells #[.slice none 0 0,.slice none 0 0,.slice none 0 0] 31 (0,0))):=(b6.block _ (lt_of_block R5.out)).trans R5.out
           have S6:Hid (w6.heap[w2.heap.size]? = some (.cells #[.slice x1 live.length k1,.slice x2 safe.length k2,.slice x3 ln k3] 31 (0,0))):=(b6.block _ (lt_of_block S5.out)).trans S5.out
           have X16:Hid (w6.ownsRow w1.heap.size 84 2 (.slice x1 live.length k1) live.length (pcells live)):=kept2 X15.out b6
           have X26:Hid (w6.ownsRow w1.heap.size 84 2 (.slice x2 safe.length k2) safe.length (pcells safe)):=kept2 X25.out b6
           have X36:Hid (w6.ownsRow w1.heap.size 40 4 (.slice x3 ln k3) ln (dcells ops)):=kept4 X35.out b6
           clear B5 H5 O5 R5 S5 X15 X25 X35
           have z56:w5.heap.size≤w6.heap.size:=b6.size
           clear b6
           cases ft with
           | false =>
             have EQ:Hid (r=(live,safe,ops,4)):=Ec3.out rfl
             have HP:Hid (JPost w (((w6.setCell ⟨w.heap.size+1+1,0,none⟩ (.slice x1 live.length k1)).setCell ⟨w.heap.size+1+1,1,none⟩ (.slice x2 safe.length k2)).setCell ⟨w.heap.size+1+1,2,none⟩ (.slice x3 ln k3)) (.returned (.tuple #[.agg #[.slice x1 live.length k1,.slice x2 safe.length k2,.slice x3 ln k3],.int .i64 4])) r):=same_post EQ.out HLN.out X16.out X26.out X36.out HAP.out u1 B6
             obtain⟨y0,y1,y2,yf⟩:=three_cells S6.out
             obtain⟨r0,r1,r2,rf⟩:=three_cells R6.out
             have rf0:=rf 0
             have rf1:=rf 1
             have rf2:=rf 2
             have v1:=dk_set (j:=0) (z:=.slice x1 live.length k1) R6.out
             have v2:=dk_set (j:=1) (z:=.slice x2 safe.length k2) v1
             have v3:=dk_set (j:=2) (z:=.slice x3 ln k3) v2
             have HY:Hid (_=_):=v3
             clear v1 v2 v3 rf yf EQ Ec3 Ed3 HDL HF6
             go_wp2
             refine bodyPost_ret (v:=.tuple #[.agg #[.slice x1 live.length k1,.slice x2 safe.length k2,.slice x3 ln k3],.int .i64 4]) (results_disk rfl _ _ (w.heap.size+1+1) 31 _ (0,0) _ _ rfl HY.out Try.underlying31 rfl (by kernel_rfl) rfl) rfl ?_
             exact HP.out
           | true =>
             have HE:Hid (r=(gs,safe,ops ++ [⟨1,n,t,d⟩],0)):=Ed3.out rfl
             have HL:Hid (∀ W,Below w6.heap.size w6 W→Calls Try.prog 52 #[.map (some mb)] W fun e w'=>∃ (a:Option Addr) (c:Nat),e=.returned (.slice a gs.length c)∧w'.ownsRow W.heap.size 84 2 (.slice a gs.length c) gs.length (pcells gs)∧Below W.heap.size W w'):=fun W hW=>(impl_list w3.heap.size mb (60+1) gs D5 SS5 W (by have:=HDL.out.2.1;omega) HDL.out.2.2 (HF6.out.below hW)).mono fun e w' ⟨a,m,c,h1,h2,h3⟩=>by obtain⟨rfl,_,_⟩:=isPairs_own h2;exact⟨a,c,h1,h2,h3⟩
             have HC:Hid (∀ W,Below w6.heap.size w6 W→W.cell? ⟨w2.heap.size,1,none⟩=some (.slice x2 safe.length k2)∧W.cell? ⟨w2.heap.size,2,none⟩=some (.slice x3 ln k3)∧W.cell? ⟨w.heap.size+1,0,none⟩=some (.int .i64 1)∧W.cell? ⟨w.heap.size+1,1,none⟩=some (.string ⟨n.toArray⟩)∧W.cell? ⟨w.heap.size+1,2,none⟩=some (.string ⟨t.toArray⟩)∧W.cell? ⟨w.heap.size+1,3,none⟩=some (.string ⟨d.toArray⟩)):=fun W hW=>by
              obtain⟨u0,v1,v2,_⟩:=three_cells ((hW.block _ (lt_of_block S6.out)).trans S6.out)
              obtain⟨q0,q1,q2,q3,_⟩:=four_cells ((hW.block _ (lt_of_block O6.out)).trans O6.out)
              exact⟨v1,v2,q0,q1,q2,q3⟩
             have BR:Below w6.heap.size w6 w6:=Below.refl _ _
             have HNM:Hid ((w.heap.size+1+1)<w1.heap.size∧w1.heap.size≤w2.heap.size∧w2.heap.size<w3.heap.size∧w3.heap.size≤w5.heap.size∧w5.heap.size≤w6.heap.size∧ln≤1048576):=⟨u1,z12,z23,z35,z56,HMM.out.2.2.2⟩
             have HG:Hid (∀ W,Below w6.heap.size w6 W→GrowR W w1.heap.size 40 4 x3 ln k3 (dcells ops) (Value.slice x3 ln k3).ownBlock):=fun W hW=>(GrowR.later (.inr ⟨X36.out,rfl⟩) hW)
             have HB6:Hid (Below w.heap.size w w6):=B6
             have hl6:ln+1≤1048577:=by have:=HNM.out;omega
             clear Ed3 Ec3 HDL HF6 X16 X36 B6 H6 u1 z12 z23 z35 z56 i1 i2 i3
             go_wp2_with fail
             go_region_held3 (fun w'=>w'.cell? ⟨w2.heap.size,1,none⟩=some (.slice x2 safe.length k2)∧w'.cell? ⟨w2.heap.size,2,none⟩=some (.slice x3 ln k3)∧w'.cell? ⟨w.heap.size+1,0,none⟩=some (.int .i64 1)∧w'.cell? ⟨w.heap.size+1,1,none⟩=some (.string ⟨n.toArray⟩)∧w'.cell? ⟨w.heap.size+1,2,none⟩=some (.string ⟨t.toArray⟩)∧w'.cell? ⟨w.heap.size+1,3,none⟩=some (.string ⟨d.toArray⟩))
              (first | with_reducible exact S15.out | with_reducible exact S9.out | exact HC.out _ (by repeat' first | with_reducible exact B8.out | with_reducible exact BR | with_reducible apply below_drew1 | (with_reducible refine below_lit ?_ (Nat.le_refl _) _)))
              (first
               | (go_at_call 52
                  with_reducible refine (HL.out _ (by repeat' first | with_reducible exact BR | with_reducible apply below_drew1 | (with_reducible refine below_lit ?_ (Nat.le_refl _) _))).mono ?_
                  rintro e w8 ⟨a8,k8,rfl,o8,b8⟩
                  have B8:Hid (Below w6.heap.size w6 w8):=below_via (by repeat' first | with_reducible exact BR | with_reducible apply below_drew1 | (with_reducible refine below_lit ?_ (Nat.le_refl _) _)) (Nat.le_refl _) b8
                  have O8:Hid (w8.ownsRow w6.heap.size 84 2 (.slice a8 gs.length k8) gs.length (pcells gs)):=own_via (by repeat' first | with_reducible exact BR | with_reducible apply below_drew1 | (with_reducible refine below_lit ?_ (Nat.le_refl _) _)) (Nat.le_refl _) o8
                  have V8:=blk_via b8
                  clear o8 b8)
               | (refine step_append_own1 rfl (.tmp 47) (.tmp 49) 29 rfl w1.heap.size 40 j0 (.agg #[.int .i64 0, .string ⟨#[]⟩, .string ⟨#[]⟩, .string ⟨#[]⟩]) 4 56 Try.underlying29 hj0 jz0 jz1 jz2 rfl (by decide) x3 ln k3 (dcells ops) (Value.slice x3 ln k3).ownBlock (by rfl) (HG.out _ (by repeat' first | with_reducible exact B8.out | with_reducible exact BR | with_reducible apply below_drew1 | (with_reducible refine below_lit ?_ (Nat.le_refl _) _))) _ #[.int .i64 1, .string ⟨n.toArray⟩, .string ⟨t.toArray⟩, .string ⟨d.toArray⟩] (by rfl) (by first | exact V8 _ _ (heap_alloc_new _ _) | exact heap_alloc_new _ _) rfl (by simp [Value.oneCell']) hl6 (by decide) (own_base1 (by repeat' first | with_reducible exact B8.out | with_reducible exact BR | with_reducible apply below_drew1 | (with_reducible refine below_lit ?_ (Nat.le_refl _) _)) HNM.out) ?_
                  intro g9 cap9 w9 hown9 hgrow9 hat9
                  have MID:=do_mid (w:=w) (s1:=w1.heap.size) (s2:=w2.heap.size) B8.out (by repeat' first | with_reducible exact Below.refl _ _ | with_reducible apply below_drew1 | (with_reducible refine below_lit ?_ (Nat.le_refl _) _)) hgrow9 X26.out O8.out HX3.out (fun q h=>(HAP.out q).2 h) HB6.out (by have:=HNM.out;omega) (by have:=HNM.out;omega)
                  have HAT:Hid ((Value.slice x3 ln k3).ownBlock=some g9∨w8.heap.size≤g9):=at_via (by repeat' first | with_reducible exact Below.refl _ _ | with_reducible apply below_drew1 | (with_reducible refine below_lit ?_ (Nat.le_refl _) _)) hat9
                  have R9:Hid (_=_):=MID.2.2.2 _ _ (.inl HNM.out.1) R6.out
                  have S9b:=MID.2.2.2 _ _ (.inr (Nat.le_refl _)) S6.out
                  have O9b:=MID.2.2.2 _ _ (.inl (by have:=HNM.out;omega)) O6.out
                  have S9:Hid (w9.cell? ⟨w2.heap.size,1,none⟩=some (.slice x2 safe.length k2)∧w9.cell? ⟨w2.heap.size,2,none⟩=some (.slice x3 ln k3)∧w9.cell? ⟨w.heap.size+1,0,none⟩=some (.int .i64 1)∧w9.cell? ⟨w.heap.size+1,1,none⟩=some (.string ⟨n.toArray⟩)∧w9.cell? ⟨w.heap.size+1,2,none⟩=some (.string ⟨t.toArray⟩)∧w9.cell? ⟨w.heap.size+1,3,none⟩=some (.string ⟨d.toArray⟩)):=by
                   obtain⟨u0,v1,v2,_⟩:=three_cells S9b
                   obtain⟨q0,q1,q2,q3,_⟩:=four_cells O9b
                   exact⟨v1,v2,q0,q1,q2,q3⟩
                  have S15:Hid ((((w9.setCell ⟨w.heap.size+1+1,0,none⟩ (.slice a8 gs.length k8)).setCell ⟨w.heap.size+1+1,1,none⟩ (.slice x2 safe.length k2)).setCell ⟨w.heap.size+1+1,2,none⟩ (.slice (some ⟨g9,0,none⟩) (ln+1) cap9)).cell? ⟨w2.heap.size,1,none⟩=some (.slice x2 safe.length k2)∧(((w9.setCell ⟨w.heap.size+1+1,0,none⟩ (.slice a8 gs.length k8)).setCell ⟨w.heap.size+1+1,1,none⟩ (.slice x2 safe.length k2)).setCell ⟨w.heap.size+1+1,2,none⟩ (.slice (some ⟨g9,0,none⟩) (ln+1) cap9)).cell? ⟨w2.heap.size,2,none⟩=some (.slice x3 ln k3)∧(((w9.setCell ⟨w.heap.size+1+1,0,none⟩ (.slice a8 gs.length k8)).setCell ⟨w.heap.size+1+1,1,none⟩ (.slice x2 safe.length k2)).setCell ⟨w.heap.size+1+1,2,none⟩ (.slice (some ⟨g9,0,none⟩) (ln+1) cap9)).cell? ⟨w.heap.size+1,0,none⟩=some (.int .i64 1)∧(((w9.setCell ⟨w.heap.size+1+1,0,none⟩ (.slice a8 gs.length k8)).setCell ⟨w.heap.size+1+1,1,none⟩ (.slice x2 safe.length k2)).setCell ⟨w.heap.size+1+1,2,none⟩ (.slice (some ⟨g9,0,none⟩) (ln+1) cap9)).cell? ⟨w.heap.size+1,1,none⟩=some (.string ⟨n.toArray⟩)∧(((w9.setCell ⟨w.heap.size+1+1,0,none⟩ (.slice a8 gs.length k8)).setCell ⟨w.heap.size+1+1,1,none⟩ (.slice x2 safe.length k2)).setCell ⟨w.heap.size+1+1,2,none⟩ (.slice (some ⟨g9,0,none⟩) (ln+1) cap9)).cell? ⟨w.heap.size+1,2,none⟩=some (.string ⟨t.toArray⟩)∧(((w9.setCell ⟨w.heap.size+1+1,0,none⟩ (.slice a8 gs.length k8)).setCell ⟨w.heap.size+1+1,1,none⟩ (.slice x2 safe.length k2)).setCell ⟨w.heap.size+1+1,2,none⟩ (.slice (some ⟨g9,0,none⟩) (ln+1) cap9)).cell? ⟨w.heap.size+1,3,none⟩=some (.string ⟨d.toArray⟩)):=by
                   have e1:(((w9.setCell ⟨w.heap.size+1+1,0,none⟩ (.slice a8 gs.length k8)).setCell ⟨w.heap.size+1+1,1,none⟩ (.slice x2 safe.length k2)).setCell ⟨w.heap.size+1+1,2,none⟩ (.slice (some ⟨g9,0,none⟩) (ln+1) cap9)).heap[w2.heap.size]? = _:=(set3 (by have:=HNM.out;omega)).trans S9b
                   have e2:(((w9.setCell ⟨w.heap.size+1+1,0,none⟩ (.slice a8 gs.length k8)).setCell ⟨w.heap.size+1+1,1,none⟩ (.slice x2 safe.length k2)).setCell ⟨w.heap.size+1+1,2,none⟩ (.slice (some ⟨g9,0,none⟩) (ln+1) cap9)).heap[w.heap.size+1]? = _:=(set3 (by omega)).trans O9b
                   obtain⟨u0,v1,v2,_⟩:=three_cells e1
                   obtain⟨q0,q1,q2,q3,_⟩:=four_cells e2
                   exact⟨v1,v2,q0,q1,q2,q3⟩
                  have HP:Hid (JPost w (((w9.setCell ⟨w.heap.size+1+1,0,none⟩ (.slice a8 gs.length k8)).setCell ⟨w.heap.size+1+1,1,none⟩ (.slice x2 safe.length k2)).setCell ⟨w.heap.size+1+1,2,none⟩ (.slice (some ⟨g9,0,none⟩) (ln+1) cap9)) (.returned (.tuple #[.agg #[.slice a8 gs.length k8,.slice x2 safe.length k2,.slice (some ⟨g9,0,none⟩) (ln+1) cap9],.int .i64 0])) r):=do_end (k:=1) (n:=n) (t:=t) (d:=d) HE.out HLN.out hown9 MID.1 MID.2.1 MID.2.2.1 HAT.out (fun q h=>(HAP.out q).2 h) O8.out X26.out B8.out.size HNM.out.1 (fun q h=>by have:=HX3.out q h;have:=HNM.out;omega) (by have:=HNM.out;omega)
                  obtain⟨r0,r1,r2,rf⟩:=three_cells R9.out
                  have rf0:=rf 0
                  have rf1:=rf 1
                  have rf2:=rf 2
                  have HY:Hid (_=_):=dk_set (j:=2) (z:=.slice (some ⟨g9,0,none⟩) (ln+1) cap9) (dk_set (j:=1) (z:=.slice x2 safe.length k2) (dk_set (j:=0) (z:=.slice a8 gs.length k8) R9.out))
                  clear hown9 hgrow9 hat9 MID S9b O9b rf))
             all_goals
              clear HC HL HG HE
              go_wp2
              refine bodyPost_ret (v:=.tuple #[.agg #[.slice a8 gs.length k8,.slice x2 safe.length k2,.slice (some ⟨g9,0,none⟩) (ln+1) cap9],.int .i64 0]) (results_disk rfl _ _ (w.heap.size+1+1) 31 _ (0,0) _ _ rfl HY.out Try.underlying31 rfl (by kernel_rfl) rfl) rfl ?_
              exact HP.out
     · have eD := do_ren HRI.out n t d
       have fA:=findsR n t
       have eV:deedV ⟨2,n,t,d⟩=.iface 113 (.agg #[.string ⟨n.toArray⟩,.string ⟨t.toArray⟩]):=by rw[HDV.out];simp
       rw[eV]
       rw[eD] at Eb Ec Ed HDL
       simp only at Eb Ec Ed HDL
       obtain⟨g2,hg2⟩:∃ g2,g2=inK n live:=⟨_,rfl⟩
       obtain⟨gs,hgs⟩:∃ gs,gs=(if inK n live=true then putL (cutF live n) t (datF live n) else live):=⟨_,rfl⟩
       have HKD:Hid (∀ mb D S W,FMap W w3.heap.size mb 60 live D S→w3.heap.size≤W.heap.size→Calls Try.prog 137 #[.agg #[.string ⟨n.toArray⟩,.string ⟨t.toArray⟩],.map (some mb)] W fun e w'=>e=.returned (.bool g2)∧Below w3.heap.size W w'∧∃ D' S',FMap w' w3.heap.size mb (60+1) gs D' S'):=by rw[hg2,hgs];exact fun mb D S W hF hb=>impl_renameOn n t w3.heap.size mb 60 live D S W (by have:=HMM.out;omega) (by have:=HMM.out;omega) (by omega) hb hF
       rw[←hgs] at Ec Ed HDL
       replace Eb:Hid (g2=false→r=(live,safe,ops,3)):=by rw[hg2];exact Eb.out
       replace Ec:Hid (g2=true→(ln=200∨(decide (gs.length≤60) && decide (dataN gs≤200000))=false)→r=(live,safe,ops,4)):=by rw[hg2];exact Ec.out
       replace Ed:Hid (g2=true→¬ (ln=200∨(decide (gs.length≤60) && decide (dataN gs≤200000))=false)→r=(gs,safe,ops ++ [⟨2,n,t,d⟩],0)):=by rw[hg2];exact Ed.out
       clear eD hgs hg2 HDV HRI HDA eV
       have KB:=HKB.out w3 B3
       obtain⟨p0,p1,p2,_⟩:=three_cells H3.out
       go_wp2_with fail
       refine KB.mono ?_
       rintro e w4 ⟨mb,rfl,b4,D0,S0,hF0⟩
       have hF4:=hF0.mono HL60.out
       have KD:=HKD.out mb D0 S0 w4 hF4 b4.size
       clear KB HKB HKD p0 p1 p2 hF0 hF4
       have B34:Hid (Below w3.heap.size w3 w4):=b4
       clear b4
       go_wp2_with fail
       refine KD.mono ?_
       rintro e w5 ⟨rfl,b5,D5,SS5,hF5⟩
       have b35:=B34.out.trans b5
       have HF5:Hid (FMap w5 w3.heap.size mb (60+1) gs D5 SS5):=hF5
       clear KD b5 B34 hF5
       have B5:Below w.heap.size w w5:=B3.trans (b35.mono B3.size)
       have H5:Hid (w5.heap[w.heap.size]? = some (.cells #[.slice a1 live.length c1,.slice a2 safe.length c2,.slice a3 ln c3] 31 (0,0))):=(b35.block _ (lt_of_block H3.out)).trans H3.out
       have O5:Hid (w5.heap[(w.heap.size+1)]? = some (.cells #[.int .i64 2,.string ⟨n.toArray⟩,.string ⟨t.toArray⟩,.string ⟨d.toArray⟩] 40 (0,0))):=(b35.block _ (lt_of_block O3.out)).trans O3.out
       have R5:Hid (w5.heap[(w.heap.size+1+1)]? = some (.cells #[.slice none 0 0,.slice none 0 0,.slice none 0 0] 31 (0,0))):=(b35.block _ (lt_of_block R3.out)).trans R3.out
       have S5:Hid (w5.heap[w2.heap.size]? = some (.cells #[.slice x1 live.length k1,.slice x2 safe.length k2,.slice x3 ln k3] 31 (0,0))):=(b35.block _ (lt_of_block S3.out)).trans S3.out
       have X15:Hid (w5.ownsRow w1.heap.size 84 2 (.slice x1 live.length k1) live.length (pcells live)):=kept2 X13.out b35
       have X25:Hid (w5.ownsRow w1.heap.size 84 2 (.slice x2 safe.length k2) safe.length (pcells safe)):=kept2 X23.out b35
       have X35:Hid (w5.ownsRow w1.heap.size 40 4 (.slice x3 ln k3) ln (dcells ops)):=kept4 X33.out b35
       clear B3 H3 O3 R3 S3 X13 X23 X33
       have z35:w3.heap.size≤w5.heap.size:=b35.size
       clear b35
       cases g2 with
       | false =>
         have EQ:Hid (r=(live,safe,ops,3)):=Eb.out rfl
         have HP:Hid (JPost w (((w5.setCell ⟨w.heap.size+1+1,0,none⟩ (.slice x1 live.length k1)).setCell ⟨w.heap.size+1+1,1,none⟩ (.slice x2 safe.length k2)).setCell ⟨w.heap.size+1+1,2,none⟩ (.slice x3 ln k3)) (.returned (.tuple #[.agg #[.slice x1 live.length k1,.slice x2 safe.length k2,.slice x3 ln k3],.int .i64 3])) r):=same_post EQ.out HLN.out X15.out X25.out X35.out HAP.out u1 B5
         obtain⟨y0,y1,y2,yf⟩:=three_cells S5.out
         obtain⟨r0,r1,r2,rf⟩:=three_cells R5.out
         have rf0:=rf 0
         have rf1:=rf 1
         have rf2:=rf 2
         have v1:=dk_set (j:=0) (z:=.slice x1 live.length k1) R5.out
         have v2:=dk_set (j:=1) (z:=.slice x2 safe.length k2) v1
         have v3:=dk_set (j:=2) (z:=.slice x3 ln k3) v2
         have HY:Hid (_=_):=v3
         clear v1 v2 v3 rf yf EQ Eb Ec Ed HDL HF5
         go_wp2
         refine bodyPost_ret (v:=.tuple #[.agg #[.slice x1 live.length k1,.slice x2 safe.length k2,.slice x3 ln k3],.int .i64 3]) (results_disk rfl _ _ (w.heap.size+1+1) 31 _ (0,0) _ _ rfl HY.out Try.underlying31 rfl (by kernel_rfl) rfl) rfl ?_
         exact HP.out
       | true =>
         have Ec2:Hid ((ln=200∨(decide (gs.length≤60) && decide (dataN gs≤200000))=false)→r=(live,safe,ops,4)):=Ec.out rfl
         have Ed2:Hid (¬ (ln=200∨(decide (gs.length≤60) && decide (dataN gs≤200000))=false)→r=(gs,safe,ops ++ [⟨2,n,t,d⟩],0)):=Ed.out rfl
         clear Eb Ec Ed
         by_cases h200:ln=200
         · subst h200
           have EQ:Hid (r=(live,safe,ops,4)):=Ec2.out (.inl rfl)
           have HP:Hid (JPost w (((w5.setCell ⟨w.heap.size+1+1,0,none⟩ (.slice x1 live.length k1)).setCell ⟨w.heap.size+1+1,1,none⟩ (.slice x2 safe.length k2)).setCell ⟨w.heap.size+1+1,2,none⟩ (.slice x3 200 k3)) (.returned (.tuple #[.agg #[.slice x1 live.length k1,.slice x2 safe.length k2,.slice x3 200 k3],.int .i64 4])) r):=same_post EQ.out HLN.out X15.out X25.out X35.out HAP.out u1 B5
           obtain⟨y0,y1,y2,yf⟩:=three_cells S5.out
           obtain⟨r0,r1,r2,rf⟩:=three_cells R5.out
           have rf0:=rf 0
           have rf1:=rf 1
           have rf2:=rf 2
           obtain⟨p0,p1,p2,_⟩:=three_cells H5.out
           have v1:=dk_set (j:=0) (z:=.slice x1 live.length k1) R5.out
           have v2:=dk_set (j:=1) (z:=.slice x2 safe.length k2) v1
           have v3:=dk_set (j:=2) (z:=.slice x3 200 k3) v2
           have HY:Hid (_=_):=v3
           clear v1 v2 v3 rf yf EQ Ec2 Ed2 HDL HF5
           go_wp2
           refine bodyPost_ret (v:=.tuple #[.agg #[.slice x1 live.length k1,.slice x2 safe.length k2,.slice x3 200 k3],.int .i64 4]) (results_disk rfl _ _ (w.heap.size+1+1) 31 _ (0,0) _ _ rfl HY.out Try.underlying31 rfl (by kernel_rfl) rfl) rfl ?_
           exact HP.out
         · obtain ⟨ft, hft⟩ : ∃ ft, ft = (decide (gs.length ≤ 60) && decide (dataN gs ≤ 200000)) := ⟨_, rfl⟩
           have h200':¬ (ln:Int)=200:=by omega
           have h200b:decide ((ln:Int)=200)=false:=decide_eq_false h200'
           have KT:=impl_fit w3.heap.size mb (60+1) gs D5 SS5 w5 HDL.out.1 HF5.out
           rw[←hft] at KT
           have Ec3:Hid (ft=false→r=(live,safe,ops,4)):=fun h=>Ec2.out (.inr (by rw[←hft];exact h))
           have Ed3:Hid (ft=true→r=(gs,safe,ops ++ [⟨2,n,t,d⟩],0)):=fun h=>Ed2.out (by rintro (h1 | h1);exact h200 h1;rw[←hft,h] at h1;cases h1)
           clear Ec2 Ed2 hft h200
           obtain⟨p0,p1,p2,_⟩:=three_cells H5.out
           go_wp2_with fail
           refine KT.mono ?_
           rintro e w6 ⟨rfl,b6⟩
           have HF6:Hid (FMap w6 w3.heap.size mb (60+1) gs D5 SS5):=HF5.out.below b6
           clear KT p0 p1 p2 HF5
           have B6:Below w.heap.size w w6:=B5.trans (b6.mono B5.size)
           have H6:Hid (w6.heap[w.heap.size]? = some (.cells #[.slice a1 live.length c1,.slice a2 safe.length c2,.slice a3 ln c3] 31 (0,0))):=(b6.block _ (lt_of_block H5.out)).trans H5.out
           have O6:Hid (w6.heap[(w.heap.size+1)]? = some (.cells #[.int .i64 2,.string ⟨n.toArray⟩,.string ⟨t.toArray⟩,.string ⟨d.toArray⟩] 40 (0,0))):=(b6.block _ (lt_of_block O5.out)).trans O5.out
           have R6:Hid (w6.heap[(w.heap.size+1+1)]? = some (.cells #[.slice none 0 0,.slice none 0 0,.slice none 0 0] 31 (0,0))):=(b6.block _ (lt_of_block R5.out)).trans R5.out
           have S6:Hid (w6.heap[w2.heap.size]? = some (.cells #[.slice x1 live.length k1,.slice x2 safe.length k2,.slice x3 ln k3] 31 (0,0))):=(b6.block _ (lt_of_block S5.out)).trans S5.out
           have X16:Hid (w6.ownsRow w1.heap.size 84 2 (.slice x1 live.length k1) live.length (pcells live)):=kept2 X15.out b6
           have X26:Hid (w6.ownsRow w1.heap.size 84 2 (.slice x2 safe.length k2) safe.length (pcells safe)):=kept2 X25.out b6
           have X36:Hid (w6.ownsRow w1.heap.size 40 4 (.slice x3 ln k3) ln (dcells ops)):=kept4 X35.out b6
           clear B5 H5 O5 R5 S5 X15 X25 X35
           have z56:w5.heap.size≤w6.heap.size:=b6.size
           clear b6
           cases ft with
           | false =>
             have EQ:Hid (r=(live,safe,ops,4)):=Ec3.out rfl
             have HP:Hid (JPost w (((w6.setCell ⟨w.heap.size+1+1,0,none⟩ (.slice x1 live.length k1)).setCell ⟨w.heap.size+1+1,1,none⟩ (.slice x2 safe.length k2)).setCell ⟨w.heap.size+1+1,2,none⟩ (.slice x3 ln k3)) (.returned (.tuple #[.agg #[.slice x1 live.length k1,.slice x2 safe.length k2,.slice x3 ln k3],.int .i64 4])) r):=same_post EQ.out HLN.out X16.out X26.out X36.out HAP.out u1 B6
             obtain⟨y0,y1,y2,yf⟩:=three_cells S6.out
             obtain⟨r0,r1,r2,rf⟩:=three_cells R6.out
             have rf0:=rf 0
             have rf1:=rf 1
             have rf2:=rf 2
             have v1:=dk_set (j:=0) (z:=.slice x1 live.length k1) R6.out
             have v2:=dk_set (j:=1) (z:=.slice x2 safe.length k2) v1
             have v3:=dk_set (j:=2) (z:=.slice x3 ln k3) v2
             have HY:Hid (_=_):=v3
             clear v1 v2 v3 rf yf EQ Ec3 Ed3 HDL HF6
             go_wp2
             refine bodyPost_ret (v:=.tuple #[.agg #[.slice x1 live.length k1,.slice x2 safe.length k2,.slice x3 ln k3],.int .i64 4]) (results_disk rfl _ _ (w.heap.size+1+1) 31 _ (0,0) _ _ rfl HY.out Try.underlying31 rfl (by kernel_rfl) rfl) rfl ?_
             exact HP.out
           | true =>
             have HE:Hid (r=(gs,safe,ops ++ [⟨2,n,t,d⟩],0)):=Ed3.out rfl
             have HL:Hid (∀ W,Below w6.heap.size w6 W→Calls Try.prog 52 #[.map (some mb)] W fun e w'=>∃ (a:Option Addr) (c:Nat),e=.returned (.slice a gs.length c)∧w'.ownsRow W.heap.size 84 2 (.slice a gs.length c) gs.length (pcells gs)∧Below W.heap.size W w'):=fun W hW=>(impl_list w3.heap.size mb (60+1) gs D5 SS5 W (by have:=HDL.out.2.1;omega) HDL.out.2.2 (HF6.out.below hW)).mono fun e w' ⟨a,m,c,h1,h2,h3⟩=>by obtain⟨rfl,_,_⟩:=isPairs_own h2;exact⟨a,c,h1,h2,h3⟩
             have HC:Hid (∀ W,Below w6.heap.size w6 W→W.cell? ⟨w2.heap.size,1,none⟩=some (.slice x2 safe.length k2)∧W.cell? ⟨w2.heap.size,2,none⟩=some (.slice x3 ln k3)∧W.cell? ⟨w.heap.size+1,0,none⟩=some (.int .i64 2)∧W.cell? ⟨w.heap.size+1,1,none⟩=some (.string ⟨n.toArray⟩)∧W.cell? ⟨w.heap.size+1,2,none⟩=some (.string ⟨t.toArray⟩)∧W.cell? ⟨w.heap.size+1,3,none⟩=some (.string ⟨d.toArray⟩)):=fun W hW=>by
              obtain⟨u0,v1,v2,_⟩:=three_cells ((hW.block _ (lt_of_block S6.out)).trans S6.out)
              obtain⟨q0,q1,q2,q3,_⟩:=four_cells ((hW.block _ (lt_of_block O6.out)).trans O6.out)
              exact⟨v1,v2,q0,q1,q2,q3⟩
             have BR:Below w6.heap.size w6 w6:=Below.refl _ _
             have HNM:Hid ((w.heap.size+1+1)<w1.heap.size∧w1.heap.size≤w2.heap.size∧w2.heap.size<w3.heap.size∧w3.heap.size≤w5.heap.size∧w5.heap.size≤w6.heap.size∧ln≤1048576):=⟨u1,z12,z23,z35,z56,HMM.out.2.2.2⟩
             have HG:Hid (∀ W,Below w6.heap.size w6 W→GrowR W w1.heap.size 40 4 x3 ln k3 (dcells ops) (Value.slice x3 ln k3).ownBlock):=fun W hW=>(GrowR.later (.inr ⟨X36.out,rfl⟩) hW)
             have HB6:Hid (Below w.heap.size w w6):=B6
             have hl6:ln+1≤1048577:=by have:=HNM.out;omega
             clear Ed3 Ec3 HDL HF6 X16 X36 B6 H6 u1 z12 z23 z35 z56 i1 i2 i3
             go_wp2_with fail
             go_region_held3 (fun w'=>w'.cell? ⟨w2.heap.size,1,none⟩=some (.slice x2 safe.length k2)∧w'.cell? ⟨w2.heap.size,2,none⟩=some (.slice x3 ln k3)∧w'.cell? ⟨w.heap.size+1,0,none⟩=some (.int .i64 2)∧w'.cell? ⟨w.heap.size+1,1,none⟩=some (.string ⟨n.toArray⟩)∧w'.cell? ⟨w.heap.size+1,2,none⟩=some (.string ⟨t.toArray⟩)∧w'.cell? ⟨w.heap.size+1,3,none⟩=some (.string ⟨d.toArray⟩))
              (first | with_reducible exact S15.out | with_reducible exact S9.out | exact HC.out _ (by repeat' first | with_reducible exact B8.out | with_reducible exact BR | with_reducible apply below_drew1 | (with_reducible refine below_lit ?_ (Nat.le_refl _) _)))
              (first
               | (go_at_call 52
                  with_reducible refine (HL.out _ (by repeat' first | with_reducible exact BR | with_reducible apply below_drew1 | (with_reducible refine below_lit ?_ (Nat.le_refl _) _))).mono ?_
                  rintro e w8 ⟨a8,k8,rfl,o8,b8⟩
                  have B8:Hid (Below w6.heap.size w6 w8):=below_via (by repeat' first | with_reducible exact BR | with_reducible apply below_drew1 | (with_reducible refine below_lit ?_ (Nat.le_refl _) _)) (Nat.le_refl _) b8
                  have O8:Hid (w8.ownsRow w6.heap.size 84 2 (.slice a8 gs.length k8) gs.length (pcells gs)):=own_via (by repeat' first | with_reducible exact BR | with_reducible apply below_drew1 | (with_reducible refine below_lit ?_ (Nat.le_refl _) _)) (Nat.le_refl _) o8
                  have V8:=blk_via b8
                  clear o8 b8)
               | (refine step_append_own1 rfl (.tmp 47) (.tmp 49) 29 rfl w1.heap.size 40 j0 (.agg #[.int .i64 0, .string ⟨#[]⟩, .string ⟨#[]⟩, .string ⟨#[]⟩]) 4 56 Try.underlying29 hj0 jz0 jz1 jz2 rfl (by decide) x3 ln k3 (dcells ops) (Value.slice x3 ln k3).ownBlock (by rfl) (HG.out _ (by repeat' first | with_reducible exact B8.out | with_reducible exact BR | with_reducible apply below_drew1 | (with_reducible refine below_lit ?_ (Nat.le_refl _) _))) _ #[.int .i64 2, .string ⟨n.toArray⟩, .string ⟨t.toArray⟩, .string ⟨d.toArray⟩] (by rfl) (by first | exact V8 _ _ (heap_alloc_new _ _) | exact heap_alloc_new _ _) rfl (by simp [Value.oneCell']) hl6 (by decide) (own_base1 (by repeat' first | with_reducible exact B8.out | with_reducible exact BR | with_reducible apply below_drew1 | (with_reducible refine below_lit ?_ (Nat.le_refl _) _)) HNM.out) ?_
                  intro g9 cap9 w9 hown9 hgrow9 hat9
                  have MID:=do_mid (w:=w) (s1:=w1.heap.size) (s2:=w2.heap.size) B8.out (by repeat' first | with_reducible exact Below.refl _ _ | with_reducible apply below_drew1 | (with_reducible refine below_lit ?_ (Nat.le_refl _) _)) hgrow9 X26.out O8.out HX3.out (fun q h=>(HAP.out q).2 h) HB6.out (by have:=HNM.out;omega) (by have:=HNM.out;omega)
                  have HAT:Hid ((Value.slice x3 ln k3).ownBlock=some g9∨w8.heap.size≤g9):=at_via (by repeat' first | with_reducible exact Below.refl _ _ | with_reducible apply below_drew1 | (with_reducible refine below_lit ?_ (Nat.le_refl _) _)) hat9
                  have R9:Hid (_=_):=MID.2.2.2 _ _ (.inl HNM.out.1) R6.out
                  have S9b:=MID.2.2.2 _ _ (.inr (Nat.le_refl _)) S6.out
                  have O9b:=MID.2.2.2 _ _ (.inl (by have:=HNM.out;omega)) O6.out
                  have S9:Hid (w9.cell? ⟨w2.heap.size,1,none⟩=some (.slice x2 safe.length k2)∧w9.cell? ⟨w2.heap.size,2,none⟩=some (.slice x3 ln k3)∧w9.cell? ⟨w.heap.size+1,0,none⟩=some (.int .i64 2)∧w9.cell? ⟨w.heap.size+1,1,none⟩=some (.string ⟨n.toArray⟩)∧w9.cell? ⟨w.heap.size+1,2,none⟩=some (.string ⟨t.toArray⟩)∧w9.cell? ⟨w.heap.size+1,3,none⟩=some (.string ⟨d.toArray⟩)):=by
                   obtain⟨u0,v1,v2,_⟩:=three_cells S9b
                   obtain⟨q0,q1,q2,q3,_⟩:=four_cells O9b
                   exact⟨v1,v2,q0,q1,q2,q3⟩
                  have S15:Hid ((((w9.setCell ⟨w.heap.size+1+1,0,none⟩ (.slice a8 gs.length k8)).setCell ⟨w.heap.size+1+1,1,none⟩ (.slice x2 safe.length k2)).setCell ⟨w.heap.size+1+1,2,none⟩ (.slice (some ⟨g9,0,none⟩) (ln+1) cap9)).cell? ⟨w2.heap.size,1,none⟩=some (.slice x2 safe.length k2)∧(((w9.setCell ⟨w.heap.size+1+1,0,none⟩ (.slice a8 gs.length k8)).setCell ⟨w.heap.size+1+1,1,none⟩ (.slice x2 safe.length k2)).setCell ⟨w.heap.size+1+1,2,none⟩ (.slice (some ⟨g9,0,none⟩) (ln+1) cap9)).cell? ⟨w2.heap.size,2,none⟩=some (.slice x3 ln k3)∧(((w9.setCell ⟨w.heap.size+1+1,0,none⟩ (.slice a8 gs.length k8)).setCell ⟨w.heap.size+1+1,1,none⟩ (.slice x2 safe.length k2)).setCell ⟨w.heap.size+1+1,2,none⟩ (.slice (some ⟨g9,0,none⟩) (ln+1) cap9)).cell? ⟨w.heap.size+1,0,none⟩=some (.int .i64 2)∧(((w9.setCell ⟨w.heap.size+1+1,0,none⟩ (.slice a8 gs.length k8)).setCell ⟨w.heap.size+1+1,1,none⟩ (.slice x2 safe.length k2)).setCell ⟨w.heap.size+1+1,2,none⟩ (.slice (some ⟨g9,0,none⟩) (ln+1) cap9)).cell? ⟨w.heap.size+1,1,none⟩=some (.string ⟨n.toArray⟩)∧(((w9.setCell ⟨w.heap.size+1+1,0,none⟩ (.slice a8 gs.length k8)).setCell ⟨w.heap.size+1+1,1,none⟩ (.slice x2 safe.length k2)).setCell ⟨w.heap.size+1+1,2,none⟩ (.slice (some ⟨g9,0,none⟩) (ln+1) cap9)).cell? ⟨w.heap.size+1,2,none⟩=some (.string ⟨t.toArray⟩)∧(((w9.setCell ⟨w.heap.size+1+1,0,none⟩ (.slice a8 gs.length k8)).setCell ⟨w.heap.size+1+1,1,none⟩ (.slice x2 safe.length k2)).setCell ⟨w.heap.size+1+1,2,none⟩ (.slice (some ⟨g9,0,none⟩) (ln+1) cap9)).cell? ⟨w.heap.size+1,3,none⟩=some (.string ⟨d.toArray⟩)):=by
                   have e1:(((w9.setCell ⟨w.heap.size+1+1,0,none⟩ (.slice a8 gs.length k8)).setCell ⟨w.heap.size+1+1,1,none⟩ (.slice x2 safe.length k2)).setCell ⟨w.heap.size+1+1,2,none⟩ (.slice (some ⟨g9,0,none⟩) (ln+1) cap9)).heap[w2.heap.size]? = _:=(set3 (by have:=HNM.out;omega)).trans S9b
                   have e2:(((w9.setCell ⟨w.heap.size+1+1,0,none⟩ (.slice a8 gs.length k8)).setCell ⟨w.heap.size+1+1,1,none⟩ (.slice x2 safe.length k2)).setCell ⟨w.heap.size+1+1,2,none⟩ (.slice (some ⟨g9,0,none⟩) (ln+1) cap9)).heap[w.heap.size+1]? = _:=(set3 (by omega)).trans O9b
                   obtain⟨u0,v1,v2,_⟩:=three_cells e1
                   obtain⟨q0,q1,q2,q3,_⟩:=four_cells e2
                   exact⟨v1,v2,q0,q1,q2,q3⟩
                  have HP:Hid (JPost w (((w9.setCell ⟨w.heap.size+1+1,0,none⟩ (.slice a8 gs.length k8)).setCell ⟨w.heap.size+1+1,1,none⟩ (.slice x2 safe.length k2)).setCell ⟨w.heap.size+1+1,2,none⟩ (.slice (some ⟨g9,0,none⟩) (ln+1) cap9)) (.returned (.tuple #[.agg #[.slice a8 gs.length k8,.slice x2 safe.length k2,.slice (some ⟨g9,0,none⟩) (ln+1) cap9],.int .i64 0])) r):=do_end (k:=2) (n:=n) (t:=t) (d:=d) HE.out HLN.out hown9 MID.1 MID.2.1 MID.2.2.1 HAT.out (fun q h=>(HAP.out q).2 h) O8.out X26.out B8.out.size HNM.out.1 (fun q h=>by have:=HX3.out q h;have:=HNM.out;omega) (by have:=HNM.out;omega)
                  obtain⟨r0,r1,r2,rf⟩:=three_cells R9.out
                  have rf0:=rf 0
                  have rf1:=rf 1
                  have rf2:=rf 2
                  have HY:Hid (_=_):=dk_set (j:=2) (z:=.slice (some ⟨g9,0,none⟩) (ln+1) cap9) (dk_set (j:=1) (z:=.slice x2 safe.length k2) (dk_set (j:=0) (z:=.slice a8 gs.length k8) R9.out))
                  clear hown9 hgrow9 hat9 MID S9b O9b rf))
             all_goals
              clear HC HL HG HE
              go_wp2
              refine bodyPost_ret (v:=.tuple #[.agg #[.slice a8 gs.length k8,.slice x2 safe.length k2,.slice (some ⟨g9,0,none⟩) (ln+1) cap9],.int .i64 0]) (results_disk rfl _ _ (w.heap.size+1+1) 31 _ (0,0) _ _ rfl HY.out Try.underlying31 rfl (by kernel_rfl) rfl) rfl ?_
              exact HP.out
     · have eD := do_rem HRI.out n t d
       have fA:=findsM n
       have eV:deedV ⟨3,n,t,d⟩=.iface 115 (.agg #[.string ⟨n.toArray⟩]):=by rw[HDV.out];simp
       rw[eV]
       rw[eD] at Eb Ec Ed HDL
       simp only at Eb Ec Ed HDL
       obtain⟨g2,hg2⟩:∃ g2,g2=inK n live:=⟨_,rfl⟩
       obtain⟨gs,hgs⟩:∃ gs,gs=cutF live n:=⟨_,rfl⟩
       have HKD:Hid (∀ mb D S W,FMap W w3.heap.size mb 60 live D S→w3.heap.size≤W.heap.size→Calls Try.prog 139 #[.agg #[.string ⟨n.toArray⟩],.map (some mb)] W fun e w'=>e=.returned (.bool g2)∧Below w3.heap.size W w'∧∃ D' S',FMap w' w3.heap.size mb (60+1) gs D' S'):=by rw[hg2,hgs];exact fun mb D S W hF hb=>impl_removeOn n w3.heap.size mb 60 live D S W (by have:=HMM.out;omega) hb hF
       rw[←hgs] at Ec Ed HDL
       replace Eb:Hid (g2=false→r=(live,safe,ops,3)):=by rw[hg2];exact Eb.out
       replace Ec:Hid (g2=true→(ln=200∨(decide (gs.length≤60) && decide (dataN gs≤200000))=false)→r=(live,safe,ops,4)):=by rw[hg2];exact Ec.out
       replace Ed:Hid (g2=true→¬ (ln=200∨(decide (gs.length≤60) && decide (dataN gs≤200000))=false)→r=(gs,safe,ops ++ [⟨3,n,t,d⟩],0)):=by rw[hg2];exact Ed.out
       clear eD hgs hg2 HDV HRI HDA eV
       have KB:=HKB.out w3 B3
       obtain⟨p0,p1,p2,_⟩:=three_cells H3.out
       go_wp2_with fail
       refine KB.mono ?_
       rintro e w4 ⟨mb,rfl,b4,D0,S0,hF0⟩
       have hF4:=hF0.mono HL60.out
       have KD:=HKD.out mb D0 S0 w4 hF4 b4.size
       clear KB HKB HKD p0 p1 p2 hF0 hF4
       have B34:Hid (Below w3.heap.size w3 w4):=b4
       clear b4
       go_wp2_with fail
       refine KD.mono ?_
       rintro e w5 ⟨rfl,b5,D5,SS5,hF5⟩
       have b35:=B34.out.trans b5
       have HF5:Hid (FMap w5 w3.heap.size mb (60+1) gs D5 SS5):=hF5
       clear KD b5 B34 hF5
       have B5:Below w.heap.size w w5:=B3.trans (b35.mono B3.size)
       have H5:Hid (w5.heap[w.heap.size]? = some (.cells #[.slice a1 live.length c1,.slice a2 safe.length c2,.slice a3 ln c3] 31 (0,0))):=(b35.block _ (lt_of_block H3.out)).trans H3.out
       have O5:Hid (w5.heap[(w.heap.size+1)]? = some (.cells #[.int .i64 3,.string ⟨n.toArray⟩,.string ⟨t.toArray⟩,.string ⟨d.toArray⟩] 40 (0,0))):=(b35.block _ (lt_of_block O3.out)).trans O3.out
       have R5:Hid (w5.heap[(w.heap.size+1+1)]? = some (.cells #[.slice none 0 0,.slice none 0 0,.slice none 0 0] 31 (0,0))):=(b35.block _ (lt_of_block R3.out)).trans R3.out
       have S5:Hid (w5.heap[w2.heap.size]? = some (.cells #[.slice x1 live.length k1,.slice x2 safe.length k2,.slice x3 ln k3] 31 (0,0))):=(b35.block _ (lt_of_block S3.out)).trans S3.out
       have X15:Hid (w5.ownsRow w1.heap.size 84 2 (.slice x1 live.length k1) live.length (pcells live)):=kept2 X13.out b35
       have X25:Hid (w5.ownsRow w1.heap.size 84 2 (.slice x2 safe.length k2) safe.length (pcells safe)):=kept2 X23.out b35
       have X35:Hid (w5.ownsRow w1.heap.size 40 4 (.slice x3 ln k3) ln (dcells ops)):=kept4 X33.out b35
       clear B3 H3 O3 R3 S3 X13 X23 X33
       have z35:w3.heap.size≤w5.heap.size:=b35.size
       clear b35
       cases g2 with
       | false =>
         have EQ:Hid (r=(live,safe,ops,3)):=Eb.out rfl
         have HP:Hid (JPost w (((w5.setCell ⟨w.heap.size+1+1,0,none⟩ (.slice x1 live.length k1)).setCell ⟨w.heap.size+1+1,1,none⟩ (.slice x2 safe.length k2)).setCell ⟨w.heap.size+1+1,2,none⟩ (.slice x3 ln k3)) (.returned (.tuple #[.agg #[.slice x1 live.length k1,.slice x2 safe.length k2,.slice x3 ln k3],.int .i64 3])) r):=same_post EQ.out HLN.out X15.out X25.out X35.out HAP.out u1 B5
         obtain⟨y0,y1,y2,yf⟩:=three_cells S5.out
         obtain⟨r0,r1,r2,rf⟩:=three_cells R5.out
         have rf0:=rf 0
         have rf1:=rf 1
         have rf2:=rf 2
         have v1:=dk_set (j:=0) (z:=.slice x1 live.length k1) R5.out
         have v2:=dk_set (j:=1) (z:=.slice x2 safe.length k2) v1
         have v3:=dk_set (j:=2) (z:=.slice x3 ln k3) v2
         have HY:Hid (_=_):=v3
         clear v1 v2 v3 rf yf EQ Eb Ec Ed HDL HF5
         go_wp2
         refine bodyPost_ret (v:=.tuple #[.agg #[.slice x1 live.length k1,.slice x2 safe.length k2,.slice x3 ln k3],.int .i64 3]) (results_disk rfl _ _ (w.heap.size+1+1) 31 _ (0,0) _ _ rfl HY.out Try.underlying31 rfl (by kernel_rfl) rfl) rfl ?_
         exact HP.out
       | true =>
         have Ec2:Hid ((ln=200∨(decide (gs.length≤60) && decide (dataN gs≤200000))=false)→r=(live,safe,ops,4)):=Ec.out rfl
         have Ed2:Hid (¬ (ln=200∨(decide (gs.length≤60) && decide (dataN gs≤200000))=false)→r=(gs,safe,ops ++ [⟨3,n,t,d⟩],0)):=Ed.out rfl
         clear Eb Ec Ed
         by_cases h200:ln=200
         · subst h200
           have EQ:Hid (r=(live,safe,ops,4)):=Ec2.out (.inl rfl)
           have HP:Hid (JPost w (((w5.setCell ⟨w.heap.size+1+1,0,none⟩ (.slice x1 live.length k1)).setCell ⟨w.heap.size+1+1,1,none⟩ (.slice x2 safe.length k2)).setCell ⟨w.heap.size+1+1,2,none⟩ (.slice x3 200 k3)) (.returned (.tuple #[.agg #[.slice x1 live.length k1,.slice x2 safe.length k2,.slice x3 200 k3],.int .i64 4])) r):=same_post EQ.out HLN.out X15.out X25.out X35.out HAP.out u1 B5
           obtain⟨y0,y1,y2,yf⟩:=three_cells S5.out
           obtain⟨r0,r1,r2,rf⟩:=three_cells R5.out
           have rf0:=rf 0
           have rf1:=rf 1
           have rf2:=rf 2
           obtain⟨p0,p1,p2,_⟩:=three_cells H5.out
           have v1:=dk_set (j:=0) (z:=.slice x1 live.length k1) R5.out
           have v2:=dk_set (j:=1) (z:=.slice x2 safe.length k2) v1
           have v3:=dk_set (j:=2) (z:=.slice x3 200 k3) v2
           have HY:Hid (_=_):=v3
           clear v1 v2 v3 rf yf EQ Ec2 Ed2 HDL HF5
           go_wp2
           refine bodyPost_ret (v:=.tuple #[.agg #[.slice x1 live.length k1,.slice x2 safe.length k2,.slice x3 200 k3],.int .i64 4]) (results_disk rfl _ _ (w.heap.size+1+1) 31 _ (0,0) _ _ rfl HY.out Try.underlying31 rfl (by kernel_rfl) rfl) rfl ?_
           exact HP.out
         · obtain ⟨ft, hft⟩ : ∃ ft, ft = (decide (gs.length ≤ 60) && decide (dataN gs ≤ 200000)) := ⟨_, rfl⟩
           have h200':¬ (ln:Int)=200:=by omega
           have h200b:decide ((ln:Int)=200)=false:=decide_eq_false h200'
           have KT:=impl_fit w3.heap.size mb (60+1) gs D5 SS5 w5 HDL.out.1 HF5.out
           rw[←hft] at KT
           have Ec3:Hid (ft=false→r=(live,safe,ops,4)):=fun h=>Ec2.out (.inr (by rw[←hft];exact h))
           have Ed3:Hid (ft=true→r=(gs,safe,ops ++ [⟨3,n,t,d⟩],0)):=fun h=>Ed2.out (by rintro (h1 | h1);exact h200 h1;rw[←hft,h] at h1;cases h1)
           clear Ec2 Ed2 hft h200
           obtain⟨p0,p1,p2,_⟩:=three_cells H5.out
           go_wp2_with fail
           refine KT.mono ?_
           rintro e w6 ⟨rfl,b6⟩
           have HF6:Hid (FMap w6 w3.heap.size mb (60+1) gs D5 SS5):=HF5.out.below b6
           clear KT p0 p1 p2 HF5
           have B6:Below w.heap.size w w6:=B5.trans (b6.mono B5.size)
           have H6:Hid (w6.heap[w.heap.size]? = some (.cells #[.slice a1 live.length c1,.slice a2 safe.length c2,.slice a3 ln c3] 31 (0,0))):=(b6.block _ (lt_of_block H5.out)).trans H5.out
           have O6:Hid (w6.heap[(w.heap.size+1)]? = some (.cells #[.int .i64 3,.string ⟨n.toArray⟩,.string ⟨t.toArray⟩,.string ⟨d.toArray⟩] 40 (0,0))):=(b6.block _ (lt_of_block O5.out)).trans O5.out
           have R6:Hid (w6.heap[(w.heap.size+1+1)]? = some (.cells #[.slice none 0 0,.slice none 0 0,.slice none 0 0] 31 (0,0))):=(b6.block _ (lt_of_block R5.out)).trans R5.out
           have S6:Hid (w6.heap[w2.heap.size]? = some (.cells #[.slice x1 live.length k1,.slice x2 safe.length k2,.slice x3 ln k3] 31 (0,0))):=(b6.block _ (lt_of_block S5.out)).trans S5.out
           have X16:Hid (w6.ownsRow w1.heap.size 84 2 (.slice x1 live.length k1) live.length (pcells live)):=kept2 X15.out b6
           have X26:Hid (w6.ownsRow w1.heap.size 84 2 (.slice x2 safe.length k2) safe.length (pcells safe)):=kept2 X25.out b6
           have X36:Hid (w6.ownsRow w1.heap.size 40 4 (.slice x3 ln k3) ln (dcells ops)):=kept4 X35.out b6
           clear B5 H5 O5 R5 S5 X15 X25 X35
           have z56:w5.heap.size≤w6.heap.size:=b6.size
           clear b6
           cases ft with
           | false =>
             have EQ:Hid (r=(live,safe,ops,4)):=Ec3.out rfl
             have HP:Hid (JPost w (((w6.setCell ⟨w.heap.size+1+1,0,none⟩ (.slice x1 live.length k1)).setCell ⟨w.heap.size+1+1,1,none⟩ (.slice x2 safe.length k2)).setCell ⟨w.heap.size+1+1,2,none⟩ (.slice x3 ln k3)) (.returned (.tuple #[.agg #[.slice x1 live.length k1,.slice x2 safe.length k2,.slice x3 ln k3],.int .i64 4])) r):=same_post EQ.out HLN.out X16.out X26.out X36.out HAP.out u1 B6
             obtain⟨y0,y1,y2,yf⟩:=three_cells S6.out
             obtain⟨r0,r1,r2,rf⟩:=three_cells R6.out
             have rf0:=rf 0
             have rf1:=rf 1
             have rf2:=rf 2
             have v1:=dk_set (j:=0) (z:=.slice x1 live.length k1) R6.out
             have v2:=dk_set (j:=1) (z:=.slice x2 safe.length k2) v1
             have v3:=dk_set (j:=2) (z:=.slice x3 ln k3) v2
             have HY:Hid (_=_):=v3
             clear v1 v2 v3 rf yf EQ Ec3 Ed3 HDL HF6
             go_wp2
             refine bodyPost_ret (v:=.tuple #[.agg #[.slice x1 live.length k1,.slice x2 safe.length k2,.slice x3 ln k3],.int .i64 4]) (results_disk rfl _ _ (w.heap.size+1+1) 31 _ (0,0) _ _ rfl HY.out Try.underlying31 rfl (by kernel_rfl) rfl) rfl ?_
             exact HP.out
           | true =>
             have HE:Hid (r=(gs,safe,ops ++ [⟨3,n,t,d⟩],0)):=Ed3.out rfl
             have HL:Hid (∀ W,Below w6.heap.size w6 W→Calls Try.prog 52 #[.map (some mb)] W fun e w'=>∃ (a:Option Addr) (c:Nat),e=.returned (.slice a gs.length c)∧w'.ownsRow W.heap.size 84 2 (.slice a gs.length c) gs.length (pcells gs)∧Below W.heap.size W w'):=fun W hW=>(impl_list w3.heap.size mb (60+1) gs D5 SS5 W (by have:=HDL.out.2.1;omega) HDL.out.2.2 (HF6.out.below hW)).mono fun e w' ⟨a,m,c,h1,h2,h3⟩=>by obtain⟨rfl,_,_⟩:=isPairs_own h2;exact⟨a,c,h1,h2,h3⟩
             have HC:Hid (∀ W,Below w6.heap.size w6 W→W.cell? ⟨w2.heap.size,1,none⟩=some (.slice x2 safe.length k2)∧W.cell? ⟨w2.heap.size,2,none⟩=some (.slice x3 ln k3)∧W.cell? ⟨w.heap.size+1,0,none⟩=some (.int .i64 3)∧W.cell? ⟨w.heap.size+1,1,none⟩=some (.string ⟨n.toArray⟩)∧W.cell? ⟨w.heap.size+1,2,none⟩=some (.string ⟨t.toArray⟩)∧W.cell? ⟨w.heap.size+1,3,none⟩=some (.string ⟨d.toArray⟩)):=fun W hW=>by
              obtain⟨u0,v1,v2,_⟩:=three_cells ((hW.block _ (lt_of_block S6.out)).trans S6.out)
              obtain⟨q0,q1,q2,q3,_⟩:=four_cells ((hW.block _ (lt_of_block O6.out)).trans O6.out)
              exact⟨v1,v2,q0,q1,q2,q3⟩
             have BR:Below w6.heap.size w6 w6:=Below.refl _ _
             have HNM:Hid ((w.heap.size+1+1)<w1.heap.size∧w1.heap.size≤w2.heap.size∧w2.heap.size<w3.heap.size∧w3.heap.size≤w5.heap.size∧w5.heap.size≤w6.heap.size∧ln≤1048576):=⟨u1,z12,z23,z35,z56,HMM.out.2.2.2⟩
             have HG:Hid (∀ W,Below w6.heap.size w6 W→GrowR W w1.heap.size 40 4 x3 ln k3 (dcells ops) (Value.slice x3 ln k3).ownBlock):=fun W hW=>(GrowR.later (.inr ⟨X36.out,rfl⟩) hW)
             have HB6:Hid (Below w.heap.size w w6):=B6
             have hl6:ln+1≤1048577:=by have:=HNM.out;omega
             clear Ed3 Ec3 HDL HF6 X16 X36 B6 H6 u1 z12 z23 z35 z56 i1 i2 i3
             go_wp2_with fail
             go_region_held3 (fun w'=>w'.cell? ⟨w2.heap.size,1,none⟩=some (.slice x2 safe.length k2)∧w'.cell? ⟨w2.heap.size,2,none⟩=some (.slice x3 ln k3)∧w'.cell? ⟨w.heap.size+1,0,none⟩=some (.int .i64 3)∧w'.cell? ⟨w.heap.size+1,1,none⟩=some (.string ⟨n.toArray⟩)∧w'.cell? ⟨w.heap.size+1,2,none⟩=some (.string ⟨t.toArray⟩)∧w'.cell? ⟨w.heap.size+1,3,none⟩=some (.string ⟨d.toArray⟩))
              (first | with_reducible exact S15.out | with_reducible exact S9.out | exact HC.out _ (by repeat' first | with_reducible exact B8.out | with_reducible exact BR | with_reducible apply below_drew1 | (with_reducible refine below_lit ?_ (Nat.le_refl _) _)))
              (first
               | (go_at_call 52
                  with_reducible refine (HL.out _ (by repeat' first | with_reducible exact BR | with_reducible apply below_drew1 | (with_reducible refine below_lit ?_ (Nat.le_refl _) _))).mono ?_
                  rintro e w8 ⟨a8,k8,rfl,o8,b8⟩
                  have B8:Hid (Below w6.heap.size w6 w8):=below_via (by repeat' first | with_reducible exact BR | with_reducible apply below_drew1 | (with_reducible refine below_lit ?_ (Nat.le_refl _) _)) (Nat.le_refl _) b8
                  have O8:Hid (w8.ownsRow w6.heap.size 84 2 (.slice a8 gs.length k8) gs.length (pcells gs)):=own_via (by repeat' first | with_reducible exact BR | with_reducible apply below_drew1 | (with_reducible refine below_lit ?_ (Nat.le_refl _) _)) (Nat.le_refl _) o8
                  have V8:=blk_via b8
                  clear o8 b8)
               | (refine step_append_own1 rfl (.tmp 47) (.tmp 49) 29 rfl w1.heap.size 40 j0 (.agg #[.int .i64 0, .string ⟨#[]⟩, .string ⟨#[]⟩, .string ⟨#[]⟩]) 4 56 Try.underlying29 hj0 jz0 jz1 jz2 rfl (by decide) x3 ln k3 (dcells ops) (Value.slice x3 ln k3).ownBlock (by rfl) (HG.out _ (by repeat' first | with_reducible exact B8.out | with_reducible exact BR | with_reducible apply below_drew1 | (with_reducible refine below_lit ?_ (Nat.le_refl _) _))) _ #[.int .i64 3, .string ⟨n.toArray⟩, .string ⟨t.toArray⟩, .string ⟨d.toArray⟩] (by rfl) (by first | exact V8 _ _ (heap_alloc_new _ _) | exact heap_alloc_new _ _) rfl (by simp [Value.oneCell']) hl6 (by decide) (own_base1 (by repeat' first | with_reducible exact B8.out | with_reducible exact BR | with_reducible apply below_drew1 | (with_reducible refine below_lit ?_ (Nat.le_refl _) _)) HNM.out) ?_
                  intro g9 cap9 w9 hown9 hgrow9 hat9
                  have MID:=do_mid (w:=w) (s1:=w1.heap.size) (s2:=w2.heap.size) B8.out (by repeat' first | with_reducible exact Below.refl _ _ | with_reducible apply below_drew1 | (with_reducible refine below_lit ?_ (Nat.le_refl _) _)) hgrow9 X26.out O8.out HX3.out (fun q h=>(HAP.out q).2 h) HB6.out (by have:=HNM.out;omega) (by have:=HNM.out;omega)
                  have HAT:Hid ((Value.slice x3 ln k3).ownBlock=some g9∨w8.heap.size≤g9):=at_via (by repeat' first | with_reducible exact Below.refl _ _ | with_reducible apply below_drew1 | (with_reducible refine below_lit ?_ (Nat.le_refl _) _)) hat9
                  have R9:Hid (_=_):=MID.2.2.2 _ _ (.inl HNM.out.1) R6.out
                  have S9b:=MID.2.2.2 _ _ (.inr (Nat.le_refl _)) S6.out
                  have O9b:=MID.2.2.2 _ _ (.inl (by have:=HNM.out;omega)) O6.out
                  have S9:Hid (w9.cell? ⟨w2.heap.size,1,none⟩=some (.slice x2 safe.length k2)∧w9.cell? ⟨w2.heap.size,2,none⟩=some (.slice x3 ln k3)∧w9.cell? ⟨w.heap.size+1,0,none⟩=some (.int .i64 3)∧w9.cell? ⟨w.heap.size+1,1,none⟩=some (.string ⟨n.toArray⟩)∧w9.cell? ⟨w.heap.size+1,2,none⟩=some (.string ⟨t.toArray⟩)∧w9.cell? ⟨w.heap.size+1,3,none⟩=some (.string ⟨d.toArray⟩)):=by
                   obtain⟨u0,v1,v2,_⟩:=three_cells S9b
                   obtain⟨q0,q1,q2,q3,_⟩:=four_cells O9b
                   exact⟨v1,v2,q0,q1,q2,q3⟩
                  have S15:Hid ((((w9.setCell ⟨w.heap.size+1+1,0,none⟩ (.slice a8 gs.length k8)).setCell ⟨w.heap.size+1+1,1,none⟩ (.slice x2 safe.length k2)).setCell ⟨w.heap.size+1+1,2,none⟩ (.slice (some ⟨g9,0,none⟩) (ln+1) cap9)).cell? ⟨w2.heap.size,1,none⟩=some (.slice x2 safe.length k2)∧(((w9.setCell ⟨w.heap.size+1+1,0,none⟩ (.slice a8 gs.length k8)).setCell ⟨w.heap.size+1+1,1,none⟩ (.slice x2 safe.length k2)).setCell ⟨w.heap.size+1+1,2,none⟩ (.slice (some ⟨g9,0,none⟩) (ln+1) cap9)).cell? ⟨w2.heap.size,2,none⟩=some (.slice x3 ln k3)∧(((w9.setCell ⟨w.heap.size+1+1,0,none⟩ (.slice a8 gs.length k8)).setCell ⟨w.heap.size+1+1,1,none⟩ (.slice x2 safe.length k2)).setCell ⟨w.heap.size+1+1,2,none⟩ (.slice (some ⟨g9,0,none⟩) (ln+1) cap9)).cell? ⟨w.heap.size+1,0,none⟩=some (.int .i64 3)∧(((w9.setCell ⟨w.heap.size+1+1,0,none⟩ (.slice a8 gs.length k8)).setCell ⟨w.heap.size+1+1,1,none⟩ (.slice x2 safe.length k2)).setCell ⟨w.heap.size+1+1,2,none⟩ (.slice (some ⟨g9,0,none⟩) (ln+1) cap9)).cell? ⟨w.heap.size+1,1,none⟩=some (.string ⟨n.toArray⟩)∧(((w9.setCell ⟨w.heap.size+1+1,0,none⟩ (.slice a8 gs.length k8)).setCell ⟨w.heap.size+1+1,1,none⟩ (.slice x2 safe.length k2)).setCell ⟨w.heap.size+1+1,2,none⟩ (.slice (some ⟨g9,0,none⟩) (ln+1) cap9)).cell? ⟨w.heap.size+1,2,none⟩=some (.string ⟨t.toArray⟩)∧(((w9.setCell ⟨w.heap.size+1+1,0,none⟩ (.slice a8 gs.length k8)).setCell ⟨w.heap.size+1+1,1,none⟩ (.slice x2 safe.length k2)).setCell ⟨w.heap.size+1+1,2,none⟩ (.slice (some ⟨g9,0,none⟩) (ln+1) cap9)).cell? ⟨w.heap.size+1,3,none⟩=some (.string ⟨d.toArray⟩)):=by
                   have e1:(((w9.setCell ⟨w.heap.size+1+1,0,none⟩ (.slice a8 gs.length k8)).setCell ⟨w.heap.size+1+1,1,none⟩ (.slice x2 safe.length k2)).setCell ⟨w.heap.size+1+1,2,none⟩ (.slice (some ⟨g9,0,none⟩) (ln+1) cap9)).heap[w2.heap.size]? = _:=(set3 (by have:=HNM.out;omega)).trans S9b
                   have e2:(((w9.setCell ⟨w.heap.size+1+1,0,none⟩ (.slice a8 gs.length k8)).setCell ⟨w.heap.size+1+1,1,none⟩ (.slice x2 safe.length k2)).setCell ⟨w.heap.size+1+1,2,none⟩ (.slice (some ⟨g9,0,none⟩) (ln+1) cap9)).heap[w.heap.size+1]? = _:=(set3 (by omega)).trans O9b
                   obtain⟨u0,v1,v2,_⟩:=three_cells e1
                   obtain⟨q0,q1,q2,q3,_⟩:=four_cells e2
                   exact⟨v1,v2,q0,q1,q2,q3⟩
                  have HP:Hid (JPost w (((w9.setCell ⟨w.heap.size+1+1,0,none⟩ (.slice a8 gs.length k8)).setCell ⟨w.heap.size+1+1,1,none⟩ (.slice x2 safe.length k2)).setCell ⟨w.heap.size+1+1,2,none⟩ (.slice (some ⟨g9,0,none⟩) (ln+1) cap9)) (.returned (.tuple #[.agg #[.slice a8 gs.length k8,.slice x2 safe.length k2,.slice (some ⟨g9,0,none⟩) (ln+1) cap9],.int .i64 0])) r):=do_end (k:=3) (n:=n) (t:=t) (d:=d) HE.out HLN.out hown9 MID.1 MID.2.1 MID.2.2.1 HAT.out (fun q h=>(HAP.out q).2 h) O8.out X26.out B8.out.size HNM.out.1 (fun q h=>by have:=HX3.out q h;have:=HNM.out;omega) (by have:=HNM.out;omega)
                  obtain⟨r0,r1,r2,rf⟩:=three_cells R9.out
                  have rf0:=rf 0
                  have rf1:=rf 1
                  have rf2:=rf 2
                  have HY:Hid (_=_):=dk_set (j:=2) (z:=.slice (some ⟨g9,0,none⟩) (ln+1) cap9) (dk_set (j:=1) (z:=.slice x2 safe.length k2) (dk_set (j:=0) (z:=.slice a8 gs.length k8) R9.out))
                  clear hown9 hgrow9 hat9 MID S9b O9b rf))
             all_goals
              clear HC HL HG HE
              go_wp2
              refine bodyPost_ret (v:=.tuple #[.agg #[.slice a8 gs.length k8,.slice x2 safe.length k2,.slice (some ⟨g9,0,none⟩) (ln+1) cap9],.int .i64 0]) (results_disk rfl _ _ (w.heap.size+1+1) 31 _ (0,0) _ _ rfl HY.out Try.underlying31 rfl (by kernel_rfl) rfl) rfl ?_
              exact HP.out
end Go.Proofs.Ytlllkdioojjaeaa
