/-
 What is known of a drawn disk (written by mkdrawdk.py).
-/
import Derived.Test.YtlllkdioojjaeaaDrawDop
import Derived.Test.YtlllkdioojjaeaaIRep
namespace Go.Proofs.Ytlllkdioojjaeaa
open Go.RowKit
set_option linter.unusedVariables false
theorem GrowR.keptR {W W':World} {base e size n cap:Nat} {a:Option Addr} {xs:List Value} {row r:Option Nat} (h:GrowR W base e size a n cap xs row) (hg:W.grownBy W' r) (hr:∀ g,base≤g→r≠some g):GrowR W' base e size a n cap xs row:=by
 rcases h with h | ⟨h1,h2⟩
 · exact .inl h
 · refine .inr ⟨h1.kept hg ?_,h2⟩
   cases hv:(Value.slice a n cap).ownBlock with
   | none=>exact .inl rfl
   | some q=>exact .inr (fun e=>hr q (h1.lt q hv).1 e.symm)
def DkF (W:World) (lo:Nat) (x1 x2 x3:Option Addr) (k1 k2 k3:Nat) (live safe:List PairL) (ops:List DOpL):Prop :=
 NewR W lo x1 (pcells live)∧NewR W lo x2 (pcells safe)∧NewR W lo x3 (dcells ops)∧AddrK x1 k1∧AddrK x2 k2∧AddrL x3 k3 ops.length∧LiveF W lo x1 live.length k1 (pcells live) x2 (pcells safe) x3 (dcells ops)
theorem DkF.kept {W W':World} {lo:Nat} {r:Option Nat} {x1 x2 x3:Option Addr} {k1 k2 k3:Nat} {live safe:List PairL} {ops:List DOpL} (h:DkF W lo x1 x2 x3 k1 k2 k3 live safe ops) (hg:W.grownBy W' r) (hr:∀ g,lo≤g→r≠some g):DkF W' lo x1 x2 x3 k1 k2 k3 live safe ops:=by
 obtain⟨h1,h2,h3,a1,a2,a3,row,h4,h5⟩:=h
 exact⟨h1.kept hg (fun g hg1 _ _ e=>hr g hg1 e.symm),h2.kept hg (fun g hg1 _ _ e=>hr g hg1 e.symm),h3.kept hg (fun g hg1 _ _ e=>hr g hg1 e.symm),a1,a2,a3,row,h4.keptR hg hr,h5⟩
theorem DkF.later {W W':World} {lo:Nat} {x1 x2 x3:Option Addr} {k1 k2 k3:Nat} {live safe:List PairL} {ops:List DOpL} (h:DkF W lo x1 x2 x3 k1 k2 k3 live safe ops) (hb:Below W.heap.size W W'):DkF W' lo x1 x2 x3 k1 k2 k3 live safe ops:=h.kept (r:=none) ⟨hb.os,hb.tape,hb.output,hb.size,fun k hk _=>hb.block k hk⟩ (by simp)
theorem DkF.set {W:World} {lo:Nat} {x1 x2 x3:Option Addr} {k1 k2 k3:Nat} {live safe:List PairL} {ops:List DOpL} (h:DkF W lo x1 x2 x3 k1 k2 k3 live safe ops) (p:Addr) (hp:p.block<lo) (v:Value):DkF (W.setCell p v) lo x1 x2 x3 k1 k2 k3 live safe ops:=by
 obtain⟨h1,h2,h3,a1,a2,a3,row,h4,h5⟩:=h
 exact⟨h1.setCell p hp v,h2.setCell p hp v,h3.setCell p hp v,a1,a2,a3,row,h4.setCell p hp v,h5⟩
theorem DkF.lower {W:World} {lo lo':Nat} {x1 x2 x3:Option Addr} {k1 k2 k3:Nat} {live safe:List PairL} {ops:List DOpL} (h:DkF W lo x1 x2 x3 k1 k2 k3 live safe ops) (hl:lo'≤lo):DkF W lo' x1 x2 x3 k1 k2 k3 live safe ops:=by
 obtain⟨h1,h2,h3,a1,a2,a3,row,h4,h5⟩:=h
 exact⟨h1.lower hl,h2.lower hl,h3.lower hl,a1,a2,a3,row,h4.lower hl,h5⟩
theorem dkf_nil (W:World) (lo:Nat):DkF W lo none none none 0 0 0 [] [] []:=⟨.inl rfl,.inl rfl,.inl rfl,.inl ⟨rfl,rfl⟩,.inl ⟨rfl,rfl⟩,⟨.inl ⟨rfl,rfl⟩,Nat.le_refl _⟩,_,.inr ⟨World.ownsRow_nil _ _ _ _,rfl⟩,fun q hq=>by simp[Value.ownBlock] at hq⟩
def NewA (W:World) (lo:Nat) (a:Option Addr) (xs:List Value):Prop:=xs=[]∨∃ g off,a=some ⟨g,off,none⟩∧lo≤g∧g<W.heap.size∧∀ j,j<xs.length→W.cell? ⟨g,off+j,none⟩=xs[j]?
theorem NewR.toA {W:World} {lo:Nat} {a:Option Addr} {xs:List Value} (h:NewR W lo a xs):NewA W lo a xs:=by
 rcases h with h | ⟨g,h0,h1,h2,h3⟩
 · exact .inl h
 · exact .inr ⟨g,0,h0,h1,h2,fun j hj=>by rw[Nat.zero_add];exact h3 j hj⟩
theorem NewA.kept {W W':World} {lo:Nat} {a:Option Addr} {xs:List Value} {r:Option Nat} (h:NewA W lo a xs) (hg:W.grownBy W' r) (hr:∀ g,lo≤g→r≠some g):NewA W' lo a xs:=by
 rcases h with h | ⟨g,off,h0,h1,h2,h3⟩
 · exact .inl h
 · exact .inr ⟨g,off,h0,h1,Nat.lt_of_lt_of_le h2 hg.size,fun j hj=>by rw[World.cell?_of_block (w:=W) (a:=⟨g,off+j,none⟩) (hg.block g h2 (fun e=>hr g h1 e.symm))];exact h3 j hj⟩
theorem NewA.keptQ {W W':World} {lo:Nat} {a:Option Addr} {xs:List Value} {r:Option Nat} (h:NewA W lo a xs) (hg:W.grownBy W' r) (hr:∀ q,r=some q→FarQ a xs q):NewA W' lo a xs:=by
 by_cases hx:xs=[]
 · exact .inl hx
 · rcases h with h | ⟨g,off,h0,h1,h2,h3⟩
   · exact .inl h
   · refine .inr ⟨g,off,h0,h1,Nat.lt_of_lt_of_le h2 hg.size,fun j hj=>?_⟩
     rw[World.cell?_of_block (w:=W) (a:=⟨g,off+j,none⟩) (hg.block g h2 (fun e=>by
      rcases hr g e.symm with h | h
      · exact hx h
      · exact h g off h0 rfl))]
     exact h3 j hj
theorem NewA.set {W:World} {lo:Nat} {a:Option Addr} {xs:List Value} (h:NewA W lo a xs) (p:Addr) (hp:p.block<lo) (v:Value):NewA (W.setCell p v) lo a xs:=by
 rcases h with h | ⟨g,off,h0,h1,h2,h3⟩
 · exact .inl h
 · exact .inr ⟨g,off,h0,h1,by simpa using h2,fun j hj=>by rw[World.cell?_of_block (w:=W) (a:=⟨g,off+j,none⟩) (Below.heap_setCell _ _ _ _ (by simp only;omega))];exact h3 j hj⟩
theorem NewA.lower {W:World} {lo lo':Nat} {a:Option Addr} {xs:List Value} (h:NewA W lo a xs) (hl:lo'≤lo):NewA W lo' a xs:=by
 rcases h with h | ⟨g,off,h0,h1,h2,h3⟩
 · exact .inl h
 · exact .inr ⟨g,off,h0,Nat.le_trans hl h1,h2,h3⟩
theorem NewA.pairs {W:World} {lo:Nat} {a:Option Addr} {ps:List PairL} (h:NewA W lo a (pcells ps)):IsPairs W a ps:=by
 rcases h with h | ⟨g,off,h0,h1,h2,h3⟩
 · have:(pcells ps).length=0:=by rw[h];rfl
   rw[pcells_length] at this
   exact .inl (List.length_eq_zero_iff.1 (by omega))
 · refine .inr ⟨g,off,h0,fun j hj=>?_⟩
   have hp:=pcells_at ps j hj
   exact⟨(h3 (j*2) (by rw[pcells_length];omega)).trans hp.1,(h3 (j*2+1) (by rw[pcells_length];omega)).trans hp.2⟩
theorem NewA.dops {W:World} {lo:Nat} {a:Option Addr} {ps:List DOpL} (h:NewA W lo a (dcells ps)):IsDOps W a ps:=by
 rcases h with h | ⟨g,off,h0,h1,h2,h3⟩
 · have:(dcells ps).length=0:=by rw[h];rfl
   rw[dcells_length] at this
   exact .inl (List.length_eq_zero_iff.1 (by omega))
 · refine .inr ⟨g,off,h0,fun j hj=>?_⟩
   have hp:=dcells_at ps j hj
   exact⟨(h3 (j*4) (by rw[dcells_length];omega)).trans hp.1,(h3 (j*4+1) (by rw[dcells_length];omega)).trans hp.2.1,(h3 (j*4+2) (by rw[dcells_length];omega)).trans hp.2.2.1,(h3 (j*4+3) (by rw[dcells_length];omega)).trans hp.2.2.2⟩
def DkG (W:World) (lo:Nat) (x1 x2 x3:Option Addr) (k1 k2 k3:Nat) (live safe:List PairL) (ops:List DOpL):Prop :=
 NewA W lo x1 (pcells live)∧NewA W lo x2 (pcells safe)∧NewA W lo x3 (dcells ops)∧AddrK x1 k1∧AddrK x2 k2∧AddrK x3 k3
theorem DkF.toG {W:World} {lo:Nat} {x1 x2 x3:Option Addr} {k1 k2 k3:Nat} {live safe:List PairL} {ops:List DOpL} (h:DkF W lo x1 x2 x3 k1 k2 k3 live safe ops):DkG W lo x1 x2 x3 k1 k2 k3 live safe ops:=⟨h.1.toA,h.2.1.toA,h.2.2.1.toA,h.2.2.2.1,h.2.2.2.2.1,h.2.2.2.2.2.1.1⟩
theorem DkG.kept {W W':World} {lo:Nat} {r:Option Nat} {x1 x2 x3:Option Addr} {k1 k2 k3:Nat} {live safe:List PairL} {ops:List DOpL} (h:DkG W lo x1 x2 x3 k1 k2 k3 live safe ops) (hg:W.grownBy W' r) (hr:∀ g,lo≤g→r≠some g):DkG W' lo x1 x2 x3 k1 k2 k3 live safe ops:=⟨h.1.kept hg hr,h.2.1.kept hg hr,h.2.2.1.kept hg hr,h.2.2.2⟩
theorem DkG.later {W W':World} {lo:Nat} {x1 x2 x3:Option Addr} {k1 k2 k3:Nat} {live safe:List PairL} {ops:List DOpL} (h:DkG W lo x1 x2 x3 k1 k2 k3 live safe ops) (hb:Below W.heap.size W W'):DkG W' lo x1 x2 x3 k1 k2 k3 live safe ops:=h.kept (r:=none) ⟨hb.os,hb.tape,hb.output,hb.size,fun k hk _=>hb.block k hk⟩ (by simp)
theorem DkG.set {W:World} {lo:Nat} {x1 x2 x3:Option Addr} {k1 k2 k3:Nat} {live safe:List PairL} {ops:List DOpL} (h:DkG W lo x1 x2 x3 k1 k2 k3 live safe ops) (p:Addr) (hp:p.block<lo) (v:Value):DkG (W.setCell p v) lo x1 x2 x3 k1 k2 k3 live safe ops:=⟨h.1.set p hp v,h.2.1.set p hp v,h.2.2.1.set p hp v,h.2.2.2⟩
theorem DkG.lower {W:World} {lo lo':Nat} {x1 x2 x3:Option Addr} {k1 k2 k3:Nat} {live safe:List PairL} {ops:List DOpL} (h:DkG W lo x1 x2 x3 k1 k2 k3 live safe ops) (hl:lo'≤lo):DkG W lo' x1 x2 x3 k1 k2 k3 live safe ops:=⟨h.1.lower hl,h.2.1.lower hl,h.2.2.1.lower hl,h.2.2.2⟩
def DSz (live safe:List PairL) (ops:List DOpL):Prop:=SizeD (live,safe,ops,0)∧(∀ p∈ops,p.n.length≤100∧p.t.length≤100∧p.d.length≤100)∧live.length≤70∧safe.length≤70
theorem dsz_nil:DSz [] [] []:=⟨⟨by simp,by simp,by simp,by simp,by simp,by simp⟩,by simp,by simp,by simp⟩
theorem dsz_sync {live safe:List PairL} {ops:List DOpL} (h:DSz live safe ops):DSz (syncL live safe ops) (syncL live safe ops) []:=by
 unfold syncL
 split
 · obtain⟨⟨h1,h2,_⟩,_,h3,_⟩:=h
   exact⟨⟨h1,h2,h1,h2,by simp,by simp⟩,by simp,h3,h3⟩
 · exact dsz_nil
theorem dsz_do {live safe rl rs : List PairL} {ops ro : List DOpL} {o : DOpL} {cd : Int} (h : DSz live safe ops) (hn : o.n.length ≤ 100) (ht : o.t.length ≤ 100) (hd : o.d.length ≤ 100) (hr : (rl, rs, ro, cd) = doL live safe ops o) (hc : cd = 0) : DSz rl rs ro ∧ ro.length = ops.length + 1 := by
 obtain⟨h1,h2,h3,h4⟩:=h
 unfold doL at hr
 by_cases hk:diskOk live safe ops=true
 · rw [if_pos hk] at hr
   have hc':(actL live safe ops o).2.2.2=0:=by rw[←hr];exact hc
   have hs:=size_step (r:=(live,safe,ops,0)) h1 hk (by omega) hc'
   have hok:=act_ok hk hc'
   have hro : (actL live safe ops o).2.2.1 = ops ++ [o] := by
    revert hc';unfold actL
    split
    · simp
    · split
      · simp
      · split
        · simp
        · intro _;rfl
   rw[←hr] at hs hok hro
   simp only at hro hok
   subst hro
   simp only[diskOk,Bool.and_eq_true,decide_eq_true_eq] at hok
   refine⟨⟨hs,fun p hp=>?_,by have:=(rise_files hok.1).2.2.1;omega,by have:=(rise_files hok.2.1).2.2.1;omega⟩,by simp⟩
   rcases List.mem_append.1 hp with hp | hp
   · exact h2 p hp
   · simp at hp;subst hp;exact⟨hn,ht,hd⟩
 · rw[if_neg hk] at hr
   simp only[Prod.mk.injEq] at hr
   rw[hr.2.2.2] at hc
   exact absurd hc (by decide)
theorem rd_set3 {w:World} {rd n cap:Nat} {a:Option Addr} (h:Rd rd a n cap w) (b:Nat) (u v x:Value) (hb:rd≠b) (hc:∀ cb off,a=some ⟨cb,off,none⟩→n≠0→cb≠b):Rd rd a n cap (((w.setCell ⟨b,0,none⟩ u).setCell ⟨b,1,none⟩ v).setCell ⟨b,2,none⟩ x) :=
 h.kept (row:=some b) ⟨rfl,rfl,rfl,by simp[World.setCell],fun k _ hk=>by
  have hk':k≠b:=fun e=>hk (by rw[e])
  rw[Below.heap_setCell _ _ _ _ hk',Below.heap_setCell _ _ _ _ hk',Below.heap_setCell _ _ _ _ hk']⟩ (fun e=>hb (by simpa using e.symm)) (fun cb off h1 h2 e=>hc cb off h1 h2 (by simpa using e))
theorem rd_set1 {w:World} {rd n cap:Nat} {a:Option Addr} (h:Rd rd a n cap w) (b j:Nat) (u:Value) (hb:rd≠b) (hc:∀ cb off,a=some ⟨cb,off,none⟩→n≠0→cb≠b):Rd rd a n cap (w.setCell ⟨b,j,none⟩ u) :=
 h.kept (row:=some b) ⟨rfl,rfl,rfl,by simp[World.setCell],fun k _ hk=>Below.heap_setCell _ _ _ _ (fun e=>hk (by rw[e]))⟩ (fun e=>hb (by simpa using e.symm)) (fun cb off h1 h2 e=>hc cb off h1 h2 (by simpa using e))
theorem grown_set3 {w w':World} {row:Option Nat} (h:w.grownBy w' row) (b:Nat) (u v x:Value) (hp:w.heap.size≤b):w.grownBy (((w'.setCell ⟨b,0,none⟩ u).setCell ⟨b,1,none⟩ v).setCell ⟨b,2,none⟩ x) row:=grown_setC (grown_setC (grown_setC h _ _ hp) _ _ hp) _ _ hp
theorem disk_set3 {w:World} {b:Nat} {u v x u' v' x':Value} {t:TypeId} (h:w.heap[b]? = some (.cells #[u,v,x] t (0,0))):(((w.setCell ⟨b,0,none⟩ u').setCell ⟨b,1,none⟩ v').setCell ⟨b,2,none⟩ x').heap[b]? = some (.cells #[u',v',x'] t (0,0)):=dk_set (j:=2) (dk_set (j:=1) (dk_set (j:=0) h))
theorem other_set3 {W:World} {b q0:Nat} {u v x:Value} (h:q0≠b):(((W.setCell ⟨b,0,none⟩ u).setCell ⟨b,1,none⟩ v).setCell ⟨b,2,none⟩ x).heap[q0]? = W.heap[q0]? := by
 rw[Below.heap_setCell _ _ _ _ h,Below.heap_setCell _ _ _ _ h,Below.heap_setCell _ _ _ _ h]
theorem DkF.set3 {W:World} {lo b:Nat} {x1 x2 x3:Option Addr} {k1 k2 k3:Nat} {live safe:List PairL} {ops:List DOpL} (h:DkF W lo x1 x2 x3 k1 k2 k3 live safe ops) (hb:b<lo) (u v x:Value):DkF (((W.setCell ⟨b,0,none⟩ u).setCell ⟨b,1,none⟩ v).setCell ⟨b,2,none⟩ x) lo x1 x2 x3 k1 k2 k3 live safe ops:=((h.set _ hb _).set _ hb _).set _ hb _
theorem DkG.set3 {W:World} {lo b:Nat} {x1 x2 x3:Option Addr} {k1 k2 k3:Nat} {live safe:List PairL} {ops:List DOpL} (h:DkG W lo x1 x2 x3 k1 k2 k3 live safe ops) (hb:b<lo) (u v x:Value):DkG (((W.setCell ⟨b,0,none⟩ u).setCell ⟨b,1,none⟩ v).setCell ⟨b,2,none⟩ x) lo x1 x2 x3 k1 k2 k3 live safe ops:=((h.set _ hb _).set _ hb _).set _ hb _
def DkPost (w:World) (rd n cap:Nat) (a:Option Addr) (e:Ending) (w':World):Prop :=
 ∃ (x1 x2 x3:Option Addr) (k1 k2 k3:Nat) (live safe:List PairL) (ops:List DOpL),e=.returned (.agg #[.slice x1 live.length k1,.slice x2 safe.length k2,.slice x3 ops.length k3])∧DkG w' w.heap.size x1 x2 x3 k1 k2 k3 live safe ops∧DSz live safe ops∧ops.length≤10∧Rd rd a n cap w'∧w.grownBy w' (some rd)
theorem dkg_end {w W:World} {rd n cap l1 l2 l3:Nat} {a:Option Addr} {x1 x2 x3:Option Addr} {k1 k2 k3:Nat} {live safe:List PairL} {ops:List DOpL} (hD:DkG W (w.heap.size+2) x1 x2 x3 k1 k2 k3 live safe ops) (e1:l1=live.length) (e2:l2=safe.length) (e3:l3=ops.length) (hS:DSz live safe ops) (hl:ops.length≤10) (hR:Rd rd a n cap W) (hG:w.grownBy W (some rd)) (hrd:rd<w.heap.size) (hc:∀ cb off,a=some ⟨cb,off,none⟩→n≠0→cb<w.heap.size) :
 DkPost w rd n cap a (.returned (.agg #[.slice x1 l1 k1,.slice x2 l2 k2,.slice x3 l3 k3])) (((W.setCell ⟨w.heap.size,0,none⟩ (.slice x1 l1 k1)).setCell ⟨w.heap.size,1,none⟩ (.slice x2 l2 k2)).setCell ⟨w.heap.size,2,none⟩ (.slice x3 l3 k3)):=by
 subst e1 e2 e3
 exact⟨x1,x2,x3,k1,k2,k3,live,safe,ops,rfl,(hD.set3 (by omega) _ _ _).lower (by omega),hS,hl,rd_set3 hR _ _ _ _ (by omega) (fun cb off h1 h2=>by have:=hc cb off h1 h2;omega),grown_set3 hG _ _ _ _ (Nat.le_refl _)⟩
def DReg (W0 wx:World) (rd n cap lo bs:Nat) (a:Option Addr) (x1 x2 x3:Option Addr) (k1 k2 k3:Nat) (rl rs:List PairL) (ro:List DOpL) (cd:Int):Prop :=
 wx.heap[bs]? = some (.cells #[.slice x1 rl.length k1,.slice x2 rs.length k2,.slice x3 ro.length k3] 31 (0,0))∧lo≤bs∧(cd=0→DkF wx lo x1 x2 x3 k1 k2 k3 rl rs ro)∧Rd rd a n cap wx∧W0.grownBy wx (some rd)
theorem dreg_new {W0 Y c9:World} {rd n cap lo:Nat} {a x1 x2 x3:Option Addr} {k1 k2 k3:Nat} {rl rs:List PairL} {ro:List DOpL} {cd:Int} (hlo:lo≤Y.heap.size) (n1:NewR c9 Y.heap.size x1 (pcells rl)) (n2:NewR c9 Y.heap.size x2 (pcells rs)) (n3:NewR c9 Y.heap.size x3 (dcells ro)) (hx:cd=0→AddrK x1 k1∧AddrK x2 k2∧AddrL x3 k3 ro.length∧LiveF c9 Y.heap.size x1 rl.length k1 (pcells rl) x2 (pcells rs) x3 (dcells ro)) (b9:Below Y.heap.size Y c9) (hR:Rd rd a n cap Y) (hG:W0.grownBy Y (some rd)) :
 DReg W0 (c9.alloc (.cells #[.slice x1 rl.length k1,.slice x2 rs.length k2,.slice x3 ro.length k3] 31)) rd n cap lo c9.heap.size a x1 x2 x3 k1 k2 k3 rl rs ro cd:=by
 have b8:Below c9.heap.size c9 (c9.alloc (.cells #[.slice x1 rl.length k1,.slice x2 rs.length k2,.slice x3 ro.length k3] 31)):=(Below.refl _ _).alloc (Nat.le_refl _) _
 have hs:=b9.size
 refine⟨heap_alloc_new c9 _,by omega,fun h=>?_,(hR.keptNone b9).keptNone b8,hG.trans ((grown_of_below b9 _).trans (grown_of_below b8 _))⟩
 obtain⟨a1,a2,a3,row,h4,h5⟩:=hx h
 exact (show DkF c9 Y.heap.size x1 x2 x3 k1 k2 k3 rl rs ro from ⟨n1,n2,n3,a1,a2,a3,row,h4,h5⟩).later b8 |>.lower hlo
theorem dreg_store {W0 Y c9:World} {rd n cap lo bs:Nat} {a x1 x2 x3:Option Addr} {k1 k2 k3:Nat} {rl rs:List PairL} {ro:List DOpL} {cd:Int} (hz:c9.heap[bs]? = some (.cells #[.slice none 0 0,.slice none 0 0,.slice none 0 0] 31 (0,0))) (hb:lo≤bs) (hbY:bs<Y.heap.size) (hb0:W0.heap.size≤bs) (n1:NewR c9 Y.heap.size x1 (pcells rl)) (n2:NewR c9 Y.heap.size x2 (pcells rs)) (n3:NewR c9 Y.heap.size x3 (dcells ro)) (hx:cd=0→AddrK x1 k1∧AddrK x2 k2∧AddrL x3 k3 ro.length∧LiveF c9 Y.heap.size x1 rl.length k1 (pcells rl) x2 (pcells rs) x3 (dcells ro)) (b9:Below Y.heap.size Y c9) (hR:Rd rd a n cap Y) (hG:W0.grownBy Y (some rd)) (hrd:rd<W0.heap.size) (hc:∀ cb off,a=some ⟨cb,off,none⟩→n≠0→cb<W0.heap.size) :
 DReg W0 (((c9.setCell ⟨bs,0,none⟩ (.slice x1 rl.length k1)).setCell ⟨bs,1,none⟩ (.slice x2 rs.length k2)).setCell ⟨bs,2,none⟩ (.slice x3 ro.length k3)) rd n cap lo bs a x1 x2 x3 k1 k2 k3 rl rs ro cd:=by
 have hs:=b9.size
 refine⟨disk_set3 hz,hb,fun h=>?_,rd_set3 (hR.keptNone b9) _ _ _ _ (by omega) (fun cb off h1 h2=>by have:=hc cb off h1 h2;omega),grown_set3 (hG.trans (grown_of_below b9 _)) _ _ _ _ hb0⟩
 obtain⟨a1,a2,a3,row,h4,h5⟩:=hx h
 exact ((show DkF c9 Y.heap.size x1 x2 x3 k1 k2 k3 rl rs ro from ⟨n1,n2,n3,a1,a2,a3,row,h4,h5⟩).set3 hbY _ _ _).lower (by omega)
end Go.Proofs.Ytlllkdioojjaeaa
