/-
 Contracts: a certificate that the laws copy, in memory of its own; its marks (written by mkcertm.py).
-/
import Derived.Test.YtllmclmcncolcaaGreatDoorVotes2
namespace Go.Proofs.YtllmclmcncolcaaGreatDoor
open Go.RowKit
set_option linter.unusedVariables false
theorem own_atB {w w':World} {base e size n b cap:Nat} {xs:List Value} (h:w.ownsRow base e size (.slice (some ⟨b,0,none⟩) n cap) n xs) (hb:w'.heap[b]? = w.heap[b]?):w'.ownsRow base e size (.slice (some ⟨b,0,none⟩) n cap) n xs:=by
 obtain⟨h1,h2 | ⟨g,c,cur,hv,h3,h4,h5⟩⟩:=h
 · exact⟨h1,.inl h2⟩
 · simp only[Value.slice.injEq,Option.some.injEq,Addr.mk.injEq,and_true,true_and] at hv
   obtain⟨rfl,rfl⟩:=hv
   exact⟨h1,.inr ⟨b,_,cur,rfl,h3,hb.trans h4,h5⟩⟩
def RowO (w:World) (g b:Nat) (ls:List (List UInt8)):Prop:=w.ownsRow (g+1) 9 1 (.slice (some ⟨b,0,none⟩) ls.length ls.length) ls.length (scells ls)
theorem RowO.lt {w:World} {g b:Nat} {ls:List (List UInt8)} (h:RowO w g b ls):g<b∧b<w.heap.size:=by
 have:=World.ownsRow.lt h b (by simp[Value.ownBlock])
 exact⟨by omega,this.2⟩
theorem RowO.at {w w':World} {g b:Nat} {ls:List (List UInt8)} (h:RowO w g b ls) (hb:w'.heap[b]? = w.heap[b]?):RowO w' g b ls:=own_atB h hb
theorem RowO.len {w:World} {g b:Nat} {l m:List (List UInt8)} (h:RowO w g b l) (h':RowO w g b m):l.length=m.length:=by
 obtain⟨_,h2 | ⟨g1,c1,cur1,hv1,_,e1,_,_,s1,_⟩⟩:=h
 · simp at h2
 · obtain⟨_,h3 | ⟨g2,c2,cur2,hv2,_,e2,_,_,s2,_⟩⟩:=h'
   · simp at h3
   · simp only[Value.slice.injEq,Option.some.injEq,Addr.mk.injEq,and_true,true_and] at hv1 hv2
     obtain⟨rfl,rfl⟩:=hv1
     obtain⟨rfl,rfl⟩:=hv2
     rw[e1] at e2
     simp only[Option.some.injEq,Obj.cells.injEq] at e2
     rw[e2.1] at s1
     omega
def RowK (w:World) (g hi:Nat) (v:Option Value) (n:Nat):Prop:=∃ (b:Nat) (l:List (List UInt8)),l.length=n∧v=some (.slice (some ⟨b,0,none⟩) n n)∧RowO w g b l∧b<hi
theorem RowK.kept {w w':World} {g hi n:Nat} {v:Option Value} (h:RowK w g hi v n) (hb:∀ b,g<b→b<w.heap.size→w'.heap[b]? = w.heap[b]?):RowK w' g hi v n:=by
 obtain⟨b,l,h1,h2,h3,h4⟩:=h
 exact⟨b,l,h1,h2,h3.at (hb b h3.lt.1 h3.lt.2),h4⟩
theorem RowK.marked {w w':World} {g hi n b:Nat} {v:Option Value} {l l':List (List UInt8)} (h:RowK w g hi v n) (ho:RowO w g b l) (hl:l'.length=l.length) (ho':RowO w' g b l') (hg:w.grownBy w' (some b)):RowK w' g hi v n:=by
 obtain⟨b2,m,h1,h2,h3,h4⟩:=h
 by_cases e:b2=b
 · subst e
   exact⟨b2,l',by rw[hl,ho.len h3,h1],h2,ho',h4⟩
 · exact⟨b2,m,h1,h2,h3.at (hg.block b2 h3.lt.2 (by simpa using e)),h4⟩
def VoteK (w:World) (g hi:Nat) (ns:List (Nat × Nat)) (xs:List Value):Prop:=∀ q (h:q<ns.length),RowK w g hi xs[q*4+2]? ns[q].1∧RowK w g hi xs[q*4+3]? ns[q].2
structure Outs (lo hi:Nat) (w w':World):Prop where
 os:w'.os=w.os
 tape:w'.tape=w.tape
 output:w'.output=w.output
 size:w.heap.size≤w'.heap.size
 block:∀ b,b<w.heap.size→b<lo∨hi≤b→w'.heap[b]? = w.heap[b]?
theorem Outs.refl (lo hi:Nat) (w:World):Outs lo hi w w:=⟨rfl,rfl,rfl,Nat.le_refl _,fun _ _ _=>rfl⟩
theorem Outs.set {lo hi:Nat} {w w':World} (h:Outs lo hi w w') (p:Addr) (h1:lo≤p.block) (h2:p.block<hi) (v:Value):Outs lo hi w (w'.setCell p v) :=
 ⟨h.os,h.tape,h.output,by simpa using h.size,fun b hb hx=>(Below.heap_setCell _ _ _ _ (by omega)).trans (h.block b hb hx)⟩
theorem Outs.grown {lo hi:Nat} {w w1 w':World} {b:Nat} (h:Outs lo hi w w1) (hg:w1.grownBy w' (some b)) (h1:lo≤b) (h2:b<hi):Outs lo hi w w' :=
 ⟨hg.os.trans h.os,hg.tape.trans h.tape,hg.output.trans h.output,Nat.le_trans h.size hg.size,fun k hk hx=>(hg.block k (Nat.lt_of_lt_of_le hk h.size) (by simp;omega)).trans (h.block k hk hx)⟩
theorem Outs.drewN {lo hi:Nat} {w w':World} (h:Outs lo hi w w') (q:Nat):Outs lo hi w (w'.drewN q):=⟨h.os,h.tape,h.output,h.size,h.block⟩
def VoteO (w:World) (g:Nat) (vs:List VoteV) (xs:List Value) (j:Nat):Prop:=∀ q (h:q<vs.length),q<j→∃ g1 g2:Nat,xs[q*4]? = some (.int .i64 vs[q].nd)∧xs[q*4+1]? = some (.int .i64 vs[q].i)∧xs[q*4+2]? = some (.slice (some ⟨g1,0,none⟩) vs[q].os.length vs[q].os.length)∧xs[q*4+3]? = some (.slice (some ⟨g2,0,none⟩) vs[q].ps.length vs[q].ps.length)∧RowO w g g1 vs[q].os∧RowO w g g2 vs[q].ps
theorem VoteO.kept {w w':World} {g j:Nat} {vs:List VoteV} {xs:List Value} (h:VoteO w g vs xs j) (hb:∀ b,g<b→b<w.heap.size→w'.heap[b]? = w.heap[b]?):VoteO w' g vs xs j:=fun q hq hj=>by
 obtain⟨g1,g2,c0,c1,c2,c3,r1,r2⟩:=h q hq hj
 exact⟨g1,g2,c0,c1,c2,c3,r1.at (hb _ r1.lt.1 r1.lt.2),r2.at (hb _ r2.lt.1 r2.lt.2)⟩
theorem voteO_step {w w':World} {g:Nat} {vs:List VoteV} {xs:List Value} {j g1 g2:Nat} (hx:xs.length=vs.length*4) (h:VoteO w g vs xs j) (hj:j<vs.length) (hb:Below w.heap.size w w') (i1:RowO w' g g1 vs[j].os) (i2:RowO w' g g2 vs[j].ps) (W:World) (hW:W=(((w'.setCell ⟨g,j*4,none⟩ (.int .i64 vs[j].nd)).setCell ⟨g,j*4+1,none⟩ (.int .i64 vs[j].i)).setCell ⟨g,j*4+2,none⟩ (.slice (some ⟨g1,0,none⟩) vs[j].os.length vs[j].os.length)).setCell ⟨g,j*4+3,none⟩ (.slice (some ⟨g2,0,none⟩) vs[j].ps.length vs[j].ps.length)) :
 VoteO W g vs ((((xs.set (j*4) (.int .i64 vs[j].nd)).set (j*4+1) (.int .i64 vs[j].i)).set (j*4+2) (.slice (some ⟨g1,0,none⟩) vs[j].os.length vs[j].os.length)).set (j*4+3) (.slice (some ⟨g2,0,none⟩) vs[j].ps.length vs[j].ps.length)) (j+1):=by
 subst hW
 have keep:∀ {b:Nat} {ls:List (List UInt8)},RowO w' g b ls→RowO ((((w'.setCell ⟨g,j*4,none⟩ (.int .i64 vs[j].nd)).setCell ⟨g,j*4+1,none⟩ (.int .i64 vs[j].i)).setCell ⟨g,j*4+2,none⟩ (.slice (some ⟨g1,0,none⟩) vs[j].os.length vs[j].os.length)).setCell ⟨g,j*4+3,none⟩ (.slice (some ⟨g2,0,none⟩) vs[j].ps.length vs[j].ps.length)) g b ls:=fun hi =>
  hi.at (by
   have hne:=hi.lt.1
   rw[Below.heap_setCell _ _ _ _ (by simp;omega),Below.heap_setCell _ _ _ _ (by simp;omega),Below.heap_setCell _ _ _ _ (by simp;omega),Below.heap_setCell _ _ _ _ (by simp;omega)])
 intro q hq hqj
 by_cases e:q=j
 · subst e
   refine⟨g1,g2,?_,?_,?_,?_,keep i1,keep i2⟩ <;> simp[List.getElem?_set] <;> omega
 · obtain⟨h1,h2,c0,c1,c2,c3,s1,s2⟩:=h q hq (by omega)
   refine⟨h1,h2,?_,?_,?_,?_,keep (s1.at (hb.block _ s1.lt.2)),keep (s2.at (hb.block _ s2.lt.2))⟩
   · rw[List.getElem?_set_ne (by omega),List.getElem?_set_ne (by omega),List.getElem?_set_ne (by omega),List.getElem?_set_ne (by omega)];exact c0
   · rw[List.getElem?_set_ne (by omega),List.getElem?_set_ne (by omega),List.getElem?_set_ne (by omega),List.getElem?_set_ne (by omega)];exact c1
   · rw[List.getElem?_set_ne (by omega),List.getElem?_set_ne (by omega),List.getElem?_set_ne (by omega),List.getElem?_set_ne (by omega)];exact c2
   · rw[List.getElem?_set_ne (by omega),List.getElem?_set_ne (by omega),List.getElem?_set_ne (by omega),List.getElem?_set_ne (by omega)];exact c3
def VotesO (w:World) (lo hi:Nat) (a:Option Addr) (vs:List VoteV):Prop:=∃ (g:Nat) (xs:List Value),a=some ⟨g,0,none⟩∧g<hi∧w.ownsRow lo 74 4 (.slice (some ⟨g,0,none⟩) vs.length vs.length) vs.length xs∧VoteO w g vs xs vs.length∧VoteK w g hi (vs.map fun v=>(v.os.length,v.ps.length)) xs
theorem VoteK.kept {w w':World} {g hi:Nat} {ns:List (Nat × Nat)} {xs:List Value} (h:VoteK w g hi ns xs) (hb:∀ b,g<b→b<w.heap.size→w'.heap[b]? = w.heap[b]?):VoteK w' g hi ns xs:=fun q hq=>⟨(h q hq).1.kept hb,(h q hq).2.kept hb⟩
theorem VotesO.kept {w w':World} {lo hi:Nat} {a:Option Addr} {vs:List VoteV} (h:VotesO w lo hi a vs) (hb:∀ b,lo≤b→b<w.heap.size→w'.heap[b]? = w.heap[b]?):VotesO w' lo hi a vs:=by
 obtain⟨g,xs,h1,h0,h2,h3,h4⟩:=h
 have hl:=h2.lt g (by simp[Value.ownBlock])
 exact⟨g,xs,h1,h0,own_atB h2 (hb g hl.1 hl.2),h3.kept fun b h4 h5=>hb b (by omega) h5,h4.kept fun b h4 h5=>hb b (by omega) h5⟩
theorem VotesO.is {w:World} {lo hi:Nat} {a:Option Addr} {vs:List VoteV} (h:VotesO w lo hi a vs):IsVotes w a vs:=by
 obtain⟨g,xs,h1,_,h2,h3,_⟩:=h
 refine .inr ⟨g,0,h1,fun q hq=>?_⟩
 obtain⟨g1,g2,d0,d1,d2,d3,r1,r2⟩:=h3 q hq hq
 refine⟨some ⟨g1,0,none⟩,vs[q].os.length,some ⟨g2,0,none⟩,vs[q].ps.length,?_,?_,?_,?_,(isStrs_own r1).2.2,(isStrs_own r2).2.2⟩
 · rw[Nat.zero_add,h2.cellAt (q*4) (by omega)];exact d0
 · rw[Nat.zero_add,h2.cellAt (q*4+1) (by omega)];exact d1
 · rw[Nat.zero_add,h2.cellAt (q*4+2) (by omega)];exact d2
 · rw[Nat.zero_add,h2.cellAt (q*4+3) (by omega)];exact d3
theorem VoteO.marks {w:World} {g hi:Nat} {vs:List VoteV} {xs:List Value} (h:VoteO w g vs xs vs.length) (hh:w.heap.size≤hi):VoteK w g hi (vs.map fun v=>(v.os.length,v.ps.length)) xs:=fun q hq=>by
 have hq':q<vs.length:=by simpa using hq
 obtain⟨g1,g2,_,_,d2,d3,r1,r2⟩:=h q hq' hq'
 simp only[List.getElem_map]
 exact⟨⟨g1,vs[q].os,rfl,d2,r1,by have:=r1.lt;omega⟩,⟨g2,vs[q].ps,rfl,d3,r2,by have:=r2.lt;omega⟩⟩
theorem VotesO.lower {w:World} {lo lo' hi hi':Nat} {a:Option Addr} {vs:List VoteV} (h:VotesO w lo hi a vs) (hl:lo'≤lo) (hh:hi≤hi'):VotesO w lo' hi' a vs:=by
 obtain⟨g,xs,h1,h0,h2,h3,h4⟩:=h
 refine⟨g,xs,h1,by omega,h2.mono hl,h3,fun q hq=>?_⟩
 obtain⟨⟨b1,l1,e1,e2,e3,e4⟩,⟨b2,l2,f1,f2,f3,f4⟩⟩:=h4 q hq
 exact⟨⟨b1,l1,e1,e2,e3,by omega⟩,⟨b2,l2,f1,f2,f3,by omega⟩⟩
set_option maxRecDepth 100000 in
set_option maxHeartbeats 2000000 in
theorem toVoteS_own (a:Option Addr) (cap:Nat) (vs:List VoteV) (w:World) (hl:vs.length≤1048576) (hm:∀ v∈vs,smallV v) (hs:IsVotes w a vs) :
 Calls Tryz.prog 24 #[.slice a vs.length cap] w fun e w'=>e=.returned (.slice (some ⟨w.heap.size,0,none⟩) vs.length vs.length)∧VotesO w' w.heap.size w'.heap.size (some ⟨w.heap.size,0,none⟩) vs∧Below w.heap.size w w':=by
 obtain⟨i0,hi0,hz0,hz1,hz2⟩:=info_parts infoVt
 have HVS:Hid (∀ W,Below w.heap.size w W→IsVotes W a vs):=fun W hW=>hs.later hW
 have HM:Hid (∀ v∈vs,smallV v):=hm
 clear hs hm
 go_enter Tryz.func24,Tryz.ntmps24
 go_wp2_with (at_make;refine wpList_make_full _ rfl _ _ 35 rfl w.heap.size 74 i0 (.agg #[.int .i64 0,.int .i64 0,.slice none 0 0,.slice none 0 0]) 4 Tryz.underlying35 hi0 hz0 hz1 _ _ _ _ vs.length rfl rfl (by omega) (by omega) (by rw[hz2];omega) (by unfold maxLen;omega) (Nat.le_refl _) ?_;intro w0 hown0 hgrow0)
 have hb0:=(Below.refl w.heap.size w).grown hgrow0 (Nat.le_refl _) (by simp)
 have hs0:=hgrow0.size
 obtain⟨xs0,hxs0⟩:∃ xs:List Value,w0.ownsRow w.heap.size 74 4 (.slice (some ⟨w.heap.size,0,none⟩) vs.length vs.length) vs.length xs:=⟨_,hown0⟩
 have HX0:=hidOwn4 hxs0
 clear hown0 hgrow0 hxs0
 go_loopw [4] (fun i wr=>∃ j:Nat,∃ xs:List Value,j≤vs.length∧i=.int .i64 (j:Int)∧wr.ownsRow w.heap.size 74 4 (.slice (some ⟨w.heap.size,0,none⟩) vs.length vs.length) vs.length xs∧VoteO wr w.heap.size vs xs j∧Below w.heap.size w wr) (fun i _=>vs.length - (intOf i).toNat)
 case atStart=>exact⟨0,xs0,Nat.zero_le _,rfl,HX0.out,fun q hq h=>by omega,hb0⟩
 case round =>
  obtain⟨j,xs,hj,rfl,hown,hrow,hbel⟩:=hrel
  have hsz:=hbel.size
  by_cases hlt:j<vs.length
  · obtain⟨b,off,rfl,hc⟩:∃ b off,a=some ⟨b,off,none⟩∧∀ j (h:j<vs.length),∃ ao co ap cp,wr.cell? ⟨b,off+j*4,none⟩=some (.int .i64 vs[j].nd)∧wr.cell? ⟨b,off+j*4+1,none⟩=some (.int .i64 vs[j].i)∧wr.cell? ⟨b,off+j*4+2,none⟩=some (.slice ao vs[j].os.length co)∧wr.cell? ⟨b,off+j*4+3,none⟩=some (.slice ap vs[j].ps.length cp)∧IsStrs wr ao vs[j].os∧IsStrs wr ap vs[j].ps:=by
     rcases HVS.out wr hbel with h | h
     · rw[h] at hlt;simp at hlt
     · exact h
    obtain⟨ao,co,ap,cp,c0,c1,c2,c3,s1,s2⟩:=hc j hlt
    obtain⟨m1,m2⟩:=HM.out vs[j] (List.getElem_mem hlt)
    have hj0:(0:Int)≤(j:Int):=by omega
    have hj1:(j:Int)<(vs.length:Int):=by omega
    have HLEN:Hid (xs.length=vs.length*4):=hown.1
    have HOW:=hidOwn4 hown
    have HROW:Hid (VoteO wr w.heap.size vs xs j):=hrow
    have HSTEP:Hid (∀ (w1:World) (g1 g2:Nat),Below wr.heap.size wr w1→RowO w1 w.heap.size g1 vs[j].os→RowO w1 w.heap.size g2 vs[j].ps→∀ W,W=(((w1.setCell ⟨w.heap.size,j*4,none⟩ (.int .i64 vs[j].nd)).setCell ⟨w.heap.size,j*4+1,none⟩ (.int .i64 vs[j].i)).setCell ⟨w.heap.size,j*4+2,none⟩ (.slice (some ⟨g1,0,none⟩) vs[j].os.length vs[j].os.length)).setCell ⟨w.heap.size,j*4+3,none⟩ (.slice (some ⟨g2,0,none⟩) vs[j].ps.length vs[j].ps.length)→VoteO W w.heap.size vs ((((xs.set (j*4) (.int .i64 vs[j].nd)).set (j*4+1) (.int .i64 vs[j].i)).set (j*4+2) (.slice (some ⟨g1,0,none⟩) vs[j].os.length vs[j].os.length)).set (j*4+3) (.slice (some ⟨g2,0,none⟩) vs[j].ps.length vs[j].ps.length)) (j+1)):=fun w1 g1 g2 hb r1 r2 W hW=>voteO_step hown.1 hrow hlt hb r1 r2 W hW
    obtain⟨⟨nd,i,os,ps⟩,hx⟩:∃ x,x=vs[j]:=⟨_,rfl⟩
    rw[←hx] at c0 c1 c2 c3 s1 s2 m1 m2 HSTEP
    simp only at c0 c1 c2 c3 m1 m2
    have K:=toVote_any nd i ao ap co cp os ps wr m1 m2 s1 s2
    have hgl:=own_lt4 hown
    have HSZ:Hid (w.heap.size+1≤wr.heap.size):=hgl
    clear hc hx hown hrow s1 s2 HX0 hb0
    go_wp2_with fail
    refine K.mono ?_
    rintro e w1 ⟨g1,g2,rfl,o1,o2,b1⟩
    have hO1:=keptV4 HOW.out b1
    have B1:=hbel.trans (b1.mono hsz)
    have R1:Hid (∀ W,W=_→VoteO W w.heap.size vs _ (j+1)):=HSTEP.out w1 g1 g2 b1 (o1.mono HSZ.out) (o2.mono HSZ.out)
    obtain⟨y0,hy0⟩:∃ o,w1.cell? ⟨w.heap.size,j*4,none⟩=some o:=by rw[hO1.cellAt (j*4) (by omega)];exact⟨_,List.getElem?_eq_getElem (by rw[HLEN.out];omega)⟩
    obtain⟨y1,hy1⟩:∃ o,w1.cell? ⟨w.heap.size,j*4+1,none⟩=some o:=by rw[hO1.cellAt (j*4+1) (by omega)];exact⟨_,List.getElem?_eq_getElem (by rw[HLEN.out];omega)⟩
    obtain⟨y2,hy2⟩:∃ o,w1.cell? ⟨w.heap.size,j*4+2,none⟩=some o:=by rw[hO1.cellAt (j*4+2) (by omega)];exact⟨_,List.getElem?_eq_getElem (by rw[HLEN.out];omega)⟩
    obtain⟨y3,hy3⟩:∃ o,w1.cell? ⟨w.heap.size,j*4+3,none⟩=some o:=by rw[hO1.cellAt (j*4+3) (by omega)];exact⟨_,List.getElem?_eq_getElem (by rw[HLEN.out];omega)⟩
    have hf0:=hO1.frozenAt (j*4)
    have hf1:=hO1.frozenAt (j*4+1)
    have hf2:=hO1.frozenAt (j*4+2)
    have hf3:=hO1.frozenAt (j*4+3)
    have HST:=hidOwn4 ((((hO1.stored (j*4) (.int .i64 nd)).1.stored (j*4+1) (.int .i64 i)).1.stored (j*4+2) (.slice (some ⟨g1,0,none⟩) os.length os.length)).1.stored (j*4+3) (.slice (some ⟨g2,0,none⟩) ps.length ps.length)).1
    have HB2:Hid (Below w.heap.size w ((((w1.setCell ⟨w.heap.size,j*4,none⟩ (.int .i64 nd)).setCell ⟨w.heap.size,j*4+1,none⟩ (.int .i64 i)).setCell ⟨w.heap.size,j*4+2,none⟩ (.slice (some ⟨g1,0,none⟩) os.length os.length)).setCell ⟨w.heap.size,j*4+3,none⟩ (.slice (some ⟨g2,0,none⟩) ps.length ps.length))):=(((B1.setCell (Nat.le_refl _) _).setCell (Nat.le_refl _) _).setCell (Nat.le_refl _) _).setCell (Nat.le_refl _) _
    clear hO1 b1 o1 o2 K HOW HSTEP HROW c0 c1 c2 c3
    go_wp2
    go_roundw
    case rel=>exact⟨j+1,_,by omega,by go_num,HST.out,R1.out _ rfl,HB2.out⟩
    case measure=>simp[intOf];omega
  · have hjl:j=vs.length:=by omega
    subst hjl
    have HI:Hid (VotesO wr w.heap.size wr.heap.size (some ⟨w.heap.size,0,none⟩) vs):=⟨w.heap.size,xs,rfl,own_lt4 hown,hown,hrow,hrow.marks (Nat.le_refl _)⟩
    clear hown hrow HX0 hb0
    go_wp2
    go_ret
    exact⟨rfl,HI.out,hbel⟩
set_option maxRecDepth 100000 in
set_option maxHeartbeats 1000000 in
theorem toCert_own (n:Int) (root:List UInt8) (a:Option Addr) (cb:Nat) (vs:List VoteV) (w:World) (hl:vs.length≤1048576) (hm:∀ v∈vs,smallV v) (hs:IsVotes w a vs) :
 Calls Tryz.prog 9 #[.agg #[.int .i64 n,.string ⟨root.toArray⟩,.slice a vs.length cb]] w fun e w'=>∃ g:Nat,e=.returned (.agg #[.int .i64 n,.string ⟨root.toArray⟩,.slice (some ⟨g,0,none⟩) vs.length vs.length])∧VotesO w' w.heap.size w'.heap.size (some ⟨g,0,none⟩) vs∧Below w.heap.size w w':=by
 obtain⟨wa,hwa⟩:∃ wa,wa=((w.alloc (.cells #[.int .i64 n,.string ⟨root.toArray⟩,.slice a vs.length cb] 27)).alloc (.cells #[.int .i64 0,.string ⟨#[]⟩,.slice none 0 0] 37)).alloc (.cells #[.int .i64 n,.string ⟨root.toArray⟩,.slice none 0 0] 37):=⟨_,rfl⟩
 have Ba:Below w.heap.size w wa:=by rw[hwa];exact (((Below.refl _ _).alloc (Nat.le_refl _) _).alloc (by simp) _).alloc (by simp;omega) _
 have sa:wa.heap.size=w.heap.size+3:=by rw[hwa];simp
 have a1:wa.heap[w.heap.size+1]? = some (.cells #[.int .i64 0,.string ⟨#[]⟩,.slice none 0 0] 37 (0,0)):=by rw[hwa,Below.heap_alloc _ _ _ (by simp)];exact new_atV _ (by simp) _
 have a2:wa.heap[w.heap.size+2]? = some (.cells #[.int .i64 n,.string ⟨root.toArray⟩,.slice none 0 0] 37 (0,0)):=by rw[hwa];exact new_atV _ (by simp) _
 have K1:=toVoteS_own a cb vs wa hl hm (hs.later Ba)
 have HWA:Hid (wa=((w.alloc (.cells #[.int .i64 n,.string ⟨root.toArray⟩,.slice a vs.length cb] 27)).alloc (.cells #[.int .i64 0,.string ⟨#[]⟩,.slice none 0 0] 37)).alloc (.cells #[.int .i64 n,.string ⟨root.toArray⟩,.slice none 0 0] 37)):=hwa
 rw[sa] at K1
 clear hs hm hwa
 go_enter Tryz.func9,Tryz.ntmps9
 go_wp2_with fail
 rw[←HWA.out]
 refine K1.mono ?_
 rintro e w1 ⟨rfl,v1,b1'⟩
 have b1:Below wa.heap.size wa w1:=by rw[sa];exact b1'
 have B1:=Ba.trans (b1.mono (by omega))
 have e1:=(b1.block (w.heap.size+1) (by omega)).trans a1
 have e2:=(b1.block (w.heap.size+2) (by omega)).trans a2
 have V1:Hid (VotesO w1 (w.heap.size+3) w1.heap.size (some ⟨w.heap.size+3,0,none⟩) vs):=v1
 obtain⟨p0,p1,p2,pf⟩:=tri_cells e2
 obtain⟨q0,q1,q2,qf⟩:=tri_cells e1
 have pf2:=pf 2
 have qf0:=qf 0
 have qf1:=qf 1
 have qf2:=qf 2
 clear K1 a1 a2 b1 b1' Ba v1 sa pf qf HWA
 go_wp2
 have y1:(w1.setCell ⟨w.heap.size+1+1,2,none⟩ (.slice (some ⟨w.heap.size+3,0,none⟩) vs.length vs.length)).heap[w.heap.size+1]? = _:=(Below.heap_setCell _ _ _ _ (by simp)).trans e1
 have y5:=tri_set (j:=2) (y:=(.slice (some ⟨w.heap.size+3,0,none⟩) vs.length vs.length)) (tri_set (j:=1) (y:=.string ⟨root.toArray⟩) (tri_set (j:=0) (y:=.int .i64 n) y1))
 exact bodyPost_ret (v:=.agg #[.int .i64 n,.string ⟨root.toArray⟩,.slice (some ⟨w.heap.size+3,0,none⟩) vs.length vs.length]) (results_cell_row rfl _ _ (w.heap.size+1) 37 _ (0,0) _ rfl y5 Tryz.underlying37 rfl (by kernel_rfl)) rfl ⟨w.heap.size+3,rfl,(V1.out.kept (fun k hk _=>(Below.heap_setCell _ _ _ _ (by simp;omega)).trans ((Below.heap_setCell _ _ _ _ (by simp;omega)).trans ((Below.heap_setCell _ _ _ _ (by simp;omega)).trans (Below.heap_setCell _ _ _ _ (by simp;omega)))))).lower (by omega) (by simp),(((B1.setCell (by simp;omega) _).setCell (by simp) _).setCell (by simp) _).setCell (by simp) _⟩
def sumN (ns:List (Nat × Nat)):Nat:=(ns.map fun p=>p.1+p.2).sum
theorem sumN_drop (ns:List (Nat × Nat)) (j:Nat) (h:j<ns.length):sumN (ns.drop j)=ns[j].1+ns[j].2+sumN (ns.drop (j+1)):=by
 rw[List.drop_eq_getElem_cons h,sumN,List.map_cons,List.sum_cons];rfl
theorem sumN_votes (vs:List VoteV):sumN (vs.map fun v=>(v.os.length,v.ps.length))≤sizeVs vs:=by
 induction vs with
 | nil=>simp[sumN,sizeVs]
 | cons v r ih =>
   simp only[sumN,sizeVs,List.map_cons,List.sum_cons,sizeV] at ih ⊢
   omega
theorem VoteK.marked {w w':World} {g hi b:Nat} {ns:List (Nat × Nat)} {xs:List Value} {l l':List (List UInt8)} (h:VoteK w g hi ns xs) (ho:RowO w g b l) (hl:l'.length=l.length) (ho':RowO w' g b l') (hg:w.grownBy w' (some b)):VoteK w' g hi ns xs:=fun q hq=>⟨(h q hq).1.marked ho hl ho' hg,(h q hq).2.marked ho hl ho' hg⟩
theorem VoteK.stored {w:World} {g hi:Nat} {ns:List (Nat × Nat)} {xs:List Value} (h:VoteK w g hi ns xs) (j:Nat) (u v:Value):VoteK ((w.setCell ⟨g,j*4,none⟩ u).setCell ⟨g,j*4+1,none⟩ v) g hi ns ((xs.set (j*4) u).set (j*4+1) v):=fun q hq=>by
 have hk:∀ b,g<b→b<w.heap.size→((w.setCell ⟨g,j*4,none⟩ u).setCell ⟨g,j*4+1,none⟩ v).heap[b]? = w.heap[b]? := fun b h1 _=>by rw[Below.heap_setCell _ _ _ _ (by simp;omega),Below.heap_setCell _ _ _ _ (by simp;omega)]
 rw[List.getElem?_set_ne (by omega),List.getElem?_set_ne (by omega),List.getElem?_set_ne (by omega),List.getElem?_set_ne (by omega)]
 exact⟨(h q hq).1.kept hk,(h q hq).2.kept hk⟩
theorem Outs.later {lo hi:Nat} {w w1 w':World} (hb:Below w.heap.size w w1) (h:Outs lo hi w1 w'):Outs lo hi w w' :=
 ⟨h.os.trans hb.os,h.tape.trans hb.tape,h.output.trans hb.output,Nat.le_trans hb.size h.size,fun b h1 h2=>(h.block b (Nat.lt_of_lt_of_le h1 hb.size) h2).trans (hb.block b h1)⟩
set_option maxRecDepth 100000 in
set_option maxHeartbeats 4000000 in
theorem markVoteS_own (g lo hi K kk0:Nat) (ns:List (Nat × Nat)) (xs0:List Value) (w:World) (hK:K≤4000000) (hk0:0<kk0) (hkk:kk0+2*ns.length+sumN ns≤K) (hlo:lo≤g) (hg:g<hi) (ho:w.ownsRow lo 74 4 (.slice (some ⟨g,0,none⟩) ns.length ns.length) ns.length xs0) (hv:VoteK w g hi ns xs0) :
 Calls Tryz.prog 29 #[.slice (some ⟨g,0,none⟩) ns.length ns.length,.int .i64 kk0] w fun e w'=>∃ k':Nat,0<k'∧k'≤K∧e=.returned (.int .i64 k')∧Outs lo hi w w':=by
 have HO0:=hidOwn4 ho
 have HV0:Hid (VoteK w g hi ns xs0):=hv
 have HGH:Hid (lo≤g∧g<hi):=⟨hlo,hg⟩
 have HKK:Hid (kk0+2*ns.length+sumN ns≤K∧K≤4000000):=⟨hkk,hK⟩
 clear ho hv hlo hg hkk
 go_enter Tryz.func29,Tryz.ntmps29
 go_wp2
 go_loopw [1,5] (fun k i wr=>∃ (j kk:Nat) (xs:List Value),j≤ns.length∧k=.int .i64 (kk:Int)∧i=.int .i64 (j:Int)∧0<kk∧kk+2*(ns.length - j)+sumN (ns.drop j)≤K∧wr.ownsRow lo 74 4 (.slice (some ⟨g,0,none⟩) ns.length ns.length) ns.length xs∧VoteK wr g hi ns xs∧Outs lo hi w wr) (fun _ i _=>ns.length - (intOf i).toNat)
 case atStart=>exact⟨0,kk0,xs0,Nat.zero_le _,rfl,rfl,hk0,by have:=HKK.out;simp;omega,HO0.out,HV0.out,Outs.refl _ _ _⟩
 case round =>
  obtain⟨j,kk,xs,hj,rfl,rfl,hkp,hkb,hown,hrow,hout⟩:=hrel
  by_cases hlt:j<ns.length
  · obtain⟨⟨g1,l1,hl1,hx2,hr1,hh1⟩,⟨g2,l2,hl2,hx3,hr2,hh2⟩⟩:=hrow j hlt
    have hsd:=sumN_drop ns j hlt
    rw[←hl1] at hx2
    rw[←hl2] at hx3
    have hkb2:kk+2+l1.length+l2.length+2*(ns.length - (j+1))+sumN (ns.drop (j+1))≤K:=by omega
    have HKB2:Hid (kk+2+l1.length+l2.length+2*(ns.length - (j+1))+sumN (ns.drop (j+1))≤K):=hkb2
    have hK4:=HKK.out.2
    have hlen:=hown.1
    have hkk1:(kk:Int)≤4000000:=by omega
    have hj0:(0:Int)≤(j:Int):=by omega
    have hj1:(j:Int)<(ns.length:Int):=by omega
    obtain⟨y0,hy0⟩:∃ o,wr.cell? ⟨g,j*4,none⟩=some o:=by rw[hown.cellAt (j*4) (by omega)];exact⟨_,List.getElem?_eq_getElem (by omega)⟩
    have hf0:=hown.frozenAt (j*4)
    have S1:=(hown.stored (j*4) (.int .i64 (kk:Int))).1
    obtain⟨y1,hy1⟩:∃ o,(wr.setCell ⟨g,j*4,none⟩ (.int .i64 (kk:Int))).cell? ⟨g,j*4+1,none⟩=some o:=by rw[S1.cellAt (j*4+1) (by omega)];exact⟨_,List.getElem?_eq_getElem (by rw[List.length_set];omega)⟩
    have hf1:=S1.frozenAt (j*4+1)
    have S2:=(S1.stored (j*4+1) (.int .i64 ((kk:Int)+1))).1
    have V2:=hrow.stored j (.int .i64 (kk:Int)) (.int .i64 ((kk:Int)+1))
    have U2:=(hout.set ⟨g,j*4,none⟩ HGH.out.1 HGH.out.2 (.int .i64 (kk:Int))).set ⟨g,j*4+1,none⟩ HGH.out.1 HGH.out.2 (.int .i64 ((kk:Int)+1))
    obtain⟨w2,hw2⟩:∃ W,W=(wr.setCell ⟨g,j*4,none⟩ (.int .i64 (kk:Int))).setCell ⟨g,j*4+1,none⟩ (.int .i64 ((kk:Int)+1)):=⟨_,rfl⟩
    obtain⟨ys,hys⟩:∃ x,x=(xs.set (j*4) (.int .i64 (kk:Int))).set (j*4+1) (.int .i64 ((kk:Int)+1)):=⟨_,rfl⟩
    have hx2':ys[j*4+2]? = some (.slice (some ⟨g1,0,none⟩) l1.length l1.length):=by rw[hys,List.getElem?_set_ne (by omega),List.getElem?_set_ne (by omega)];exact hx2
    have hx3':ys[j*4+3]? = some (.slice (some ⟨g2,0,none⟩) l2.length l2.length):=by rw[hys,List.getElem?_set_ne (by omega),List.getElem?_set_ne (by omega)];exact hx3
    have R1:RowO w2 g g1 l1:=hr1.at (by rw[hw2,Below.heap_setCell _ _ _ _ (by have:=hr1.lt;simp;omega),Below.heap_setCell _ _ _ _ (by have:=hr1.lt;simp;omega)])
    have R2:RowO w2 g g2 l2:=hr2.at (by rw[hw2,Below.heap_setCell _ _ _ _ (by have:=hr2.lt;simp;omega),Below.heap_setCell _ _ _ _ (by have:=hr2.lt;simp;omega)])
    have G12:g<g1∧g<g2:=⟨hr1.lt.1,hr2.lt.1⟩
    rw[←hw2,←hys] at S2 V2
    rw[←hw2] at U2
    have c2:w2.cell? ⟨g,j*4+2,none⟩=some (.slice (some ⟨g1,0,none⟩) l1.length l1.length):=by rw[S2.cellAt (j*4+2) (by omega)];exact hx2'
    have HS2:=hidOwn4 S2
    have HV2:Hid (VoteK w2 g hi ns ys):=V2
    have HU2:Hid (Outs lo hi w w2):=U2
    have HR1:Hid (RowO w2 g g1 l1):=R1
    have HR2:Hid (RowO w2 g g2 l2):=R2
    have HX3:Hid (ys[j*4+3]? = some (.slice (some ⟨g2,0,none⟩) l2.length l2.length)):=hx3'
    have HG:Hid (g<g1∧g<g2∧lo≤g∧g1<hi∧g2<hi∧j<ns.length):=⟨G12.1,G12.2,HGH.out.1,hh1,hh2,hlt⟩
    have KM1:=markS_any l1 (.slice (some ⟨g1,0,none⟩) l1.length l1.length) (g+1) (kk+2) w2 (by omega) (by omega) (by omega) R1
    rw[show (((kk+2:Nat)):Int)=(kk:Int)+1+1 by omega] at KM1
    have hl1b:(l1.length:Int)≤4000000:=by omega
    have HL:Hid (kk+2+l1.length≤4000000∧l2.length≤4000000):=⟨by omega,by omega⟩
    rw[hw2] at KM1 c2
    clear hx2 hx3 hr1 hr2 hsd hkb hlen hkb2 hown hrow hout S1 S2 V2 U2 R1 R2 hx2' hx3' hys G12 hl1 hl2 hh1 hh2 hK4
    go_wp2_with fail
    refine KM1.mono ?_
    rw[←hw2]
    rintro e w3 ⟨rfl,o3,G3⟩
    have R3:RowO w3 g g1 (marks (kk+2) l1.length):=by
     have hm:(marks (kk+2) l1.length).length=l1.length:=marks_length _ _
     rw[RowO,hm];exact o3
    have hb3:∀ k,g<k→True:=fun _ _=>trivial
    obtain⟨l3,hl3,R3'⟩:∃ l3:List (List UInt8),l3.length=l2.length∧RowO w3 g g2 l3:=by
     by_cases e:g2=g1
     · subst e
       exact⟨_,by rw[marks_length];exact HR1.out.len HR2.out,R3⟩
     · exact⟨l2,rfl,HR2.out.at (G3.block g2 HR2.out.lt.2 (by simp[Value.ownBlock];exact e))⟩
    have V3:Hid (VoteK w3 g hi ns ys):=HV2.out.marked HR1.out (marks_length _ _) R3 G3
    have S3:w3.ownsRow lo 74 4 (.slice (some ⟨g,0,none⟩) ns.length ns.length) ns.length ys:=own_atB HS2.out (G3.block g (own_lt4 HS2.out) (by have:=HG.out.1;simp[Value.ownBlock];omega))
    have U3:Hid (Outs lo hi w w3):=HU2.out.grown G3 (by have:=HG.out;dsimp only;omega) HG.out.2.2.2.1
    have c3:w3.cell? ⟨g,j*4+3,none⟩=some (.slice (some ⟨g2,0,none⟩) l2.length l2.length):=by rw[S3.cellAt (j*4+3) (by have:=HG.out;omega)];exact HX3.out
    have KM2:=markS_any l3 (.slice (some ⟨g2,0,none⟩) l3.length l3.length) (g+1) (kk+2+l1.length) w3 (by have:=HL.out;omega) (by omega) (by have:=HL.out;omega) R3'
    rw[show (((kk+2+l1.length:Nat)):Int)=((kk+2:Nat):Int)+(l1.length:Int) by omega,show (((kk+2:Nat)):Int)=(kk:Int)+1+1 by omega,hl3] at KM2
    have HS3:=hidOwn4 S3
    have HR3:Hid (RowO w3 g g2 l3∧l3.length=l2.length):=⟨R3',hl3⟩
    clear R3 R3' hl3 S3 G3 o3 HV2 HU2 HS2 HX3 HR1 HR2 hw2 KM1 c2 hb3 hy0 hf0 hy1 hf1
    go_wp2_with fail
    refine KM2.mono ?_
    rintro e w4 ⟨rfl,o4,G4⟩
    have R4:RowO w4 g g2 (marks (kk+2+l1.length) l2.length):=by
     have hm:(marks (kk+2+l1.length) l2.length).length=l2.length:=marks_length _ _
     rw[RowO,hm];exact o4
    have V4:Hid (VoteK w4 g hi ns ys):=V3.out.marked HR3.out.1 ((marks_length _ _).trans HR3.out.2.symm) R4 G4
    have S4:=hidOwn4 (own_atB HS3.out (G4.block g (own_lt4 HS3.out) (by have:=HG.out.2.1;simp[Value.ownBlock];omega)))
    have U4:Hid (Outs lo hi w w4):=U3.out.grown G4 (by have:=HG.out;dsimp only;omega) HG.out.2.2.2.2.1
    clear R4 o4 G4 V3 HS3 U3 HR3 KM2 c3
    have hwj:IntKind.i64.wrap ((j:Int)+1)=(j:Int)+1:=i64_wrap_small _ (by omega) (by have:=HKK.out;omega)
    go_wp2
    go_roundw
    case rel=>exact⟨j+1,kk+2+l1.length+l2.length,ys,HG.out.2.2.2.2.2,by rw[show (((kk+2+l1.length+l2.length:Nat)):Int)=((kk+2:Nat):Int)+(l1.length:Int)+(l2.length:Int) by omega,show (((kk+2:Nat)):Int)=(kk:Int)+1+1 by omega],by go_num,by omega,HKB2.out,S4.out,V4.out,U4.out⟩
    case measure=>have:=HG.out.2.2.2.2.2;simp[intOf];omega
  · have hjl:j=ns.length:=by omega
    have HE:Hid (0<kk∧kk≤K∧Outs lo hi w wr):=⟨hkp,by omega,hout⟩
    clear hown hrow hout hkb HO0 HV0 hkp hjl
    go_wp2
    go_ret
    exact⟨kk,HE.out.1,HE.out.2.1,rfl,HE.out.2.2⟩
set_option maxRecDepth 100000 in
set_option maxHeartbeats 1000000 in
theorem markCert_any (n:Int) (root:List UInt8) (vs:List VoteV) (g lo hi k:Nat) (w:World) (hk:0<k) (hk2:k+2*vs.length+sizeVs vs≤4000000) (hlo:lo≤g) (hhi:hi≤w.heap.size) (h:VotesO w lo hi (some ⟨g,0,none⟩) vs) :
 Calls Tryz.prog 16 #[.agg #[.int .i64 n,.string ⟨root.toArray⟩,.slice (some ⟨g,0,none⟩) vs.length vs.length],.int .i64 k] w fun e w'=>∃ k':Nat,0<k'∧k'≤4000000∧e=.returned (.int .i64 k')∧Outs lo hi w w':=by
 have Ba:Below w.heap.size w (w.alloc (.cells #[.int .i64 n,.string ⟨root.toArray⟩,.slice (some ⟨g,0,none⟩) vs.length vs.length] 37)):=(Below.refl _ _).alloc (Nat.le_refl _) _
 have h':=h.kept (w':=w.alloc (.cells #[.int .i64 n,.string ⟨root.toArray⟩,.slice (some ⟨g,0,none⟩) vs.length vs.length] 37)) fun q _ hq=>Ba.block q hq
 obtain⟨g',xs,hg',h0,h2,_,h4⟩:=h'
 obtain rfl:g=g':=by cases hg';rfl
 have hsn:=sumN_votes vs
 have hml:(vs.map fun v=>(v.os.length,v.ps.length)).length=vs.length:=by simp
 have K1:=markVoteS_own g lo hi 4000000 k (vs.map fun v=>(v.os.length,v.ps.length)) xs _ (Nat.le_refl _) hk (by rw[hml];omega) hlo h0 (by rw[hml];exact h2) h4
 rw[hml] at K1
 obtain⟨x0,x1,x2,_⟩:=tri_cells (heap_alloc_new w (.cells #[.int .i64 n,.string ⟨root.toArray⟩,.slice (some ⟨g,0,none⟩) vs.length vs.length] 37))
 have HB:Hid (Below w.heap.size w (w.alloc (.cells #[.int .i64 n,.string ⟨root.toArray⟩,.slice (some ⟨g,0,none⟩) vs.length vs.length] 37))):=Ba
 clear h h2 h4 hsn hml hg' Ba
 go_enter Tryz.func16,Tryz.ntmps16
 go_wp2_with fail
 refine K1.mono ?_
 rintro e w1 ⟨k',h1,h2,rfl,h3⟩
 have HO:Hid (Outs lo hi w w1):=Outs.later HB.out h3
 clear K1 h3 HB
 go_wp2
 go_ret
 exact⟨k',h1,h2,rfl,HO.out⟩
end Go.Proofs.YtllmclmcncolcaaGreatDoor
