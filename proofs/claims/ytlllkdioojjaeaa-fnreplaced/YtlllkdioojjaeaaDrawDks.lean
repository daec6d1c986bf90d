/-
 Texts that are laid as one: DkL, DrawDk, DrawDkO.
-/
import Derived.Test.YtlllkdioojjaeaaDrawDop
import Derived.Test.YtlllkdioojjaeaaIRep
import Derived.Deep.Cut
import Derived.Deep.CutRange
import Derived.Test.YtlllkdioojjaeaaDrawH
namespace Go.Proofs.Ytlllkdioojjaeaa
open Go.RowKit
set_option linter.unusedVariables false
theorem GrowR.keptR {W W':World} {base e size n cap:Nat} {a:Option Addr} {xs:List Value} {row r:Option Nat} (h:GrowR W base e size a n cap xs row) (hg:W.grownBy W' r) (hr:∀ g,base≤g→r≠some g):GrowR W' base e size a n cap xs row:=by
 rcases h with h | ⟨h1,h2⟩
 · exact .inl h
 · refine .inr ⟨h1.kept hg ?_,h2⟩
   cases hv:(Value.slice a n cap).ownBlock with
   | none=>exact .inl rfl
   | some q=>exact .inr (fun e=>hr q (h1.lt q hv).1 e.symm)
def DkF (W:World) (lo:Nat) (x1 x2 x3:Option Addr) (k1 k2 k3:Nat) (live safe:List PairL) (ops:List DOpL):Prop :=
 NewR W lo x1 (pcells live)∧NewR W lo x2 (pcells safe)∧NewR W lo x3 (dcells ops)∧AddrK x1 k1∧AddrK x2 k2∧AddrL x3 k3 ops.length∧LiveF W lo x1 live.length k1 (pcells live) x2 (pcells safe) x3 (dcells ops)
theorem DkF.kept {W W':World} {lo:Nat} {r:Option Nat} {x1 x2 x3:Option Addr} {k1 k2 k3:Nat} {live safe:List PairL} {ops:List DOpL} (h:DkF W lo x1 x2 x3 k1 k2 k3 live safe ops) (hg:W.grownBy W' r) (hr:∀ g,lo≤g→r≠some g):DkF W' lo x1 x2 x3 k1 k2 k3 live safe ops:=by
 obtain⟨h1,h2,h3,a1,a2,a3,row,h4,h5⟩:=h
 exact⟨h1.kept hg (fun g hg1 _ _ e=>hr g hg1 e.symm),h2.kept hg (fun g hg1 _ _ e=>hr g hg1 e.symm),h3.kept hg (fun g hg1 _ _ e=>hr g hg1 e.symm),a1,a2,a3,row,h4.keptR hg hr,h5⟩
theorem DkF.later {W W':World} {lo:Nat} {x1 x2 x3:Option Addr} {k1 k2 k3:Nat} {live safe:List PairL} {ops:List DOpL} (h:DkF W lo x1 x2 x3 k1 k2 k3 live safe ops) (hb:Below W.heap.size W W'):DkF W' lo x1 x2 x3 k1 k2 k3 live safe ops:=h.kept (r:=none) ⟨hb.os,hb.tape,hb.output,hb.size,fun k hk _=>hb.block k hk⟩ (by simp)
theorem DkF.set {W:World} {lo:Nat} {x1 x2 x3:Option Addr} {k1 k2 k3:Nat} {live safe:List PairL} {ops:List DOpL} (h:DkF W lo x1 x2 x3 k1 k2 k3 live safe ops) (p:Addr) (hp:p.block<lo) (v:Value):DkF (W.setCell p v) lo x1 x2 x3 k1 k2 k3 live safe ops:=by
 obtain⟨h1,h2,h3,a1,a2,a3,row,h4,h5⟩:=h
 exact⟨h1.setCell p hp v,h2.setCell p hp v,h3.setCell p hp v,a1,a2,a3,row,h4.setCell p hp v,h5⟩
theorem DkF.lower {W:World} {lo lo':Nat} {x1 x2 x3:Option Addr} {k1 k2 k3:Nat} {live safe:List PairL} {ops:List DOpL} (h:DkF W lo x1 x2 x3 k1 k2 k3 live safe ops) (hl:lo'≤lo):DkF W lo' x1 x2 x3 k1 k2 k3 live safe ops:=by
 obtain⟨h1,h2,h3,a1,a2,a3,row,h4,h5⟩:=h
 exact⟨h1.lower hl,h2.lower hl,h3.lower hl,a1,a2,a3,row,h4.lower hl,h5⟩
theorem dkf_nil (W:World) (lo:Nat):DkF W lo none none none 0 0 0 [] [] []:=⟨.inl rfl,.inl rfl,.inl rfl,.inl ⟨rfl,rfl⟩,.inl ⟨rfl,rfl⟩,⟨.inl ⟨rfl,rfl⟩,Nat.le_refl _⟩,_,.inr ⟨World.ownsRow_nil _ _ _ _,rfl⟩,fun q hq=>by simp[Value.ownBlock] at hq⟩
def NewA (W:World) (lo:Nat) (a:Option Addr) (xs:List Value):Prop:=xs=[]∨∃ g off,a=some ⟨g,off,none⟩∧lo≤g∧g<W.heap.size∧∀ j,j<xs.length→W.cell? ⟨g,off+j,none⟩=xs[j]?
theorem NewR.toA {W:World} {lo:Nat} {a:Option Addr} {xs:List Value} (h:NewR W lo a xs):NewA W lo a xs:=by
 rcases h with h | ⟨g,h0,h1,h2,h3⟩
 · exact .inl h
 · exact .inr ⟨g,0,h0,h1,h2,fun j hj=>by rw[Nat.zero_add];exact h3 j hj⟩
theorem NewA.kept {W W':World} {lo:Nat} {a:Option Addr} {xs:List Value} {r:Option Nat} (h:NewA W lo a xs) (hg:W.grownBy W' r) (hr:∀ g,lo≤g→r≠some g):NewA W' lo a xs:=by
 rcases h with h | ⟨g,off,h0,h1,h2,h3⟩
 · exact .inl h
 · exact .inr ⟨g,off,h0,h1,Nat.lt_of_lt_of_le h2 hg.size,fun j hj=>by rw[World.cell?_of_block (w:=W) (a:=⟨g,off+j,none⟩) (hg.block g h2 (fun e=>hr g h1 e.symm))];exact h3 j hj⟩
theorem NewA.keptQ {W W':World} {lo:Nat} {a:Option Addr} {xs:List Value} {r:Option Nat} (h:NewA W lo a xs) (hg:W.grownBy W' r) (hr:∀ q,r=some q→FarQ a xs q):NewA W' lo a xs:=by
 by_cases hx:xs=[]
 · exact .inl hx
 · rcases h with h | ⟨g,off,h0,h1,h2,h3⟩
   · exact .inl h
   · refine .inr ⟨g,off,h0,h1,Nat.lt_of_lt_of_le h2 hg.size,fun j hj=>?_⟩
     rw[World.cell?_of_block (w:=W) (a:=⟨g,off+j,none⟩) (hg.block g h2 (fun e=>by
      rcases hr g e.symm with h | h
      · exact hx h
      · exact h g off h0 rfl))]
     exact h3 j hj
theorem NewA.set {W:World} {lo:Nat} {a:Option Addr} {xs:List Value} (h:NewA W lo a xs) (p:Addr) (hp:p.block<lo) (v:Value):NewA (W.setCell p v) lo a xs:=by
 rcases h with h | ⟨g,off,h0,h1,h2,h3⟩
 · exact .inl h
 · exact .inr ⟨g,off,h0,h1,by simpa using h2,fun j hj=>by rw[World.cell?_of_block (w:=W) (a:=⟨g,off+j,none⟩) (Below.heap_setCell _ _ _ _ (by simp only;omega))];exact h3 j hj⟩
theorem NewA.lower {W:World} {lo lo':Nat} {a:Option Addr} {xs:List Value} (h:NewA W lo a xs) (hl:lo'≤lo):NewA W lo' a xs:=by
 rcases h with h | ⟨g,off,h0,h1,h2,h3⟩
 · exact .inl h
 · exact .inr ⟨g,off,h0,Nat.le_trans hl h1,h2,h3⟩
theorem NewA.pairs {W:World} {lo:Nat} {a:Option Addr} {ps:List PairL} (h:NewA W lo a (pcells ps)):IsPairs W a ps:=by
 rcases h with h | ⟨g,off,h0,h1,h2,h3⟩
 · have:(pcells ps).length=0:=by rw[h];rfl
   rw[pcells_length] at this
   exact .inl (List.length_eq_zero_iff.1 (by omega))
 · refine .inr ⟨g,off,h0,fun j hj=>?_⟩
   have hp:=pcells_at ps j hj
   exact⟨(h3 (j*2) (by rw[pcells_length];omega)).trans hp.1,(h3 (j*2+1) (by rw[pcells_length];omega)).trans hp.2⟩
theorem NewA.dops {W:World} {lo:Nat} {a:Option Addr} {ps:List DOpL} (h:NewA W lo a (dcells ps)):IsDOps W a ps:=by
 rcases h with h | ⟨g,off,h0,h1,h2,h3⟩
 · have:(dcells ps).length=0:=by rw[h];rfl
   rw[dcells_length] at this
   exact .inl (List.length_eq_zero_iff.1 (by omega))
 · refine .inr ⟨g,off,h0,fun j hj=>?_⟩
   have hp:=dcells_at ps j hj
   exact⟨(h3 (j*4) (by rw[dcells_length];omega)).trans hp.1,(h3 (j*4+1) (by rw[dcells_length];omega)).trans hp.2.1,(h3 (j*4+2) (by rw[dcells_length];omega)).trans hp.2.2.1,(h3 (j*4+3) (by rw[dcells_length];omega)).trans hp.2.2.2⟩
def DkG (W:World) (lo:Nat) (x1 x2 x3:Option Addr) (k1 k2 k3:Nat) (live safe:List PairL) (ops:List DOpL):Prop :=
 NewA W lo x1 (pcells live)∧NewA W lo x2 (pcells safe)∧NewA W lo x3 (dcells ops)∧AddrK x1 k1∧AddrK x2 k2∧AddrK x3 k3
theorem DkF.toG {W:World} {lo:Nat} {x1 x2 x3:Option Addr} {k1 k2 k3:Nat} {live safe:List PairL} {ops:List DOpL} (h:DkF W lo x1 x2 x3 k1 k2 k3 live safe ops):DkG W lo x1 x2 x3 k1 k2 k3 live safe ops:=⟨h.1.toA,h.2.1.toA,h.2.2.1.toA,h.2.2.2.1,h.2.2.2.2.1,h.2.2.2.2.2.1.1⟩
theorem DkG.kept {W W':World} {lo:Nat} {r:Option Nat} {x1 x2 x3:Option Addr} {k1 k2 k3:Nat} {live safe:List PairL} {ops:List DOpL} (h:DkG W lo x1 x2 x3 k1 k2 k3 live safe ops) (hg:W.grownBy W' r) (hr:∀ g,lo≤g→r≠some g):DkG W' lo x1 x2 x3 k1 k2 k3 live safe ops:=⟨h.1.kept hg hr,h.2.1.kept hg hr,h.2.2.1.kept hg hr,h.2.2.2⟩
theorem DkG.later {W W':World} {lo:Nat} {x1 x2 x3:Option Addr} {k1 k2 k3:Nat} {live safe:List PairL} {ops:List DOpL} (h:DkG W lo x1 x2 x3 k1 k2 k3 live safe ops) (hb:Below W.heap.size W W'):DkG W' lo x1 x2 x3 k1 k2 k3 live safe ops:=h.kept (r:=none) ⟨hb.os,hb.tape,hb.output,hb.size,fun k hk _=>hb.block k hk⟩ (by simp)
theorem DkG.set {W:World} {lo:Nat} {x1 x2 x3:Option Addr} {k1 k2 k3:Nat} {live safe:List PairL} {ops:List DOpL} (h:DkG W lo x1 x2 x3 k1 k2 k3 live safe ops) (p:Addr) (hp:p.block<lo) (v:Value):DkG (W.setCell p v) lo x1 x2 x3 k1 k2 k3 live safe ops:=⟨h.1.set p hp v,h.2.1.set p hp v,h.2.2.1.set p hp v,h.2.2.2⟩
theorem DkG.lower {W:World} {lo lo':Nat} {x1 x2 x3:Option Addr} {k1 k2 k3:Nat} {live safe:List PairL} {ops:List DOpL} (h:DkG W lo x1 x2 x3 k1 k2 k3 live safe ops) (hl:lo'≤lo):DkG W lo' x1 x2 x3 k1 k2 k3 live safe ops:=⟨h.1.lower hl,h.2.1.lower hl,h.2.2.1.lower hl,h.2.2.2⟩
def DSz (live safe:List PairL) (ops:List DOpL):Prop:=SizeD (live,safe,ops,0)∧(∀ p∈ops,p.n.length≤100∧p.t.length≤100∧p.d.length≤100)∧live.length≤70∧safe.length≤70
theorem dsz_nil:DSz [] [] []:=⟨⟨by simp,by simp,by simp,by simp,by simp,by simp⟩,by simp,by simp,by simp⟩
theorem dsz_sync {live safe:List PairL} {ops:List DOpL} (h:DSz live safe ops):DSz (syncL live safe ops) (syncL live safe ops) []:=by
 unfold syncL
 split
 · obtain⟨⟨h1,h2,_⟩,_,h3,_⟩:=h
   exact⟨⟨h1,h2,h1,h2,by simp,by simp⟩,by simp,h3,h3⟩
 · exact dsz_nil
theorem dsz_do {live safe rl rs : List PairL} {ops ro : List DOpL} {o : DOpL} {cd : Int} (h : DSz live safe ops) (hn : o.n.length ≤ 100) (ht : o.t.length ≤ 100) (hd : o.d.length ≤ 100) (hr : (rl, rs, ro, cd) = doL live safe ops o) (hc : cd = 0) : DSz rl rs ro ∧ ro.length = ops.length + 1 := by
 obtain⟨h1,h2,h3,h4⟩:=h
 unfold doL at hr
 by_cases hk:diskOk live safe ops=true
 · rw [if_pos hk] at hr
   have hc':(actL live safe ops o).2.2.2=0:=by rw[←hr];exact hc
   have hs:=size_step (r:=(live,safe,ops,0)) h1 hk (by omega) hc'
   have hok:=act_ok hk hc'
   have hro : (actL live safe ops o).2.2.1 = ops ++ [o] := by
    revert hc';unfold actL
    split
    · simp
    · split
      · simp
      · split
        · simp
        · intro _;rfl
   rw[←hr] at hs hok hro
   simp only at hro hok
   subst hro
   simp only[diskOk,Bool.and_eq_true,decide_eq_true_eq] at hok
   refine⟨⟨hs,fun p hp=>?_,by have:=(rise_files hok.1).2.2.1;omega,by have:=(rise_files hok.2.1).2.2.1;omega⟩,by simp⟩
   rcases List.mem_append.1 hp with hp | hp
   · exact h2 p hp
   · simp at hp;subst hp;exact⟨hn,ht,hd⟩
 · rw[if_neg hk] at hr
   simp only[Prod.mk.injEq] at hr
   rw[hr.2.2.2] at hc
   exact absurd hc (by decide)
theorem rd_set3 {w:World} {rd n cap:Nat} {a:Option Addr} (h:Rd rd a n cap w) (b:Nat) (u v x:Value) (hb:rd≠b) (hc:∀ cb off,a=some ⟨cb,off,none⟩→n≠0→cb≠b):Rd rd a n cap (((w.setCell ⟨b,0,none⟩ u).setCell ⟨b,1,none⟩ v).setCell ⟨b,2,none⟩ x) :=
 h.kept (row:=some b) ⟨rfl,rfl,rfl,by simp[World.setCell],fun k _ hk=>by
  have hk':k≠b:=fun e=>hk (by rw[e])
  rw[Below.heap_setCell _ _ _ _ hk',Below.heap_setCell _ _ _ _ hk',Below.heap_setCell _ _ _ _ hk']⟩ (fun e=>hb (by simpa using e.symm)) (fun cb off h1 h2 e=>hc cb off h1 h2 (by simpa using e))
theorem rd_set1 {w:World} {rd n cap:Nat} {a:Option Addr} (h:Rd rd a n cap w) (b j:Nat) (u:Value) (hb:rd≠b) (hc:∀ cb off,a=some ⟨cb,off,none⟩→n≠0→cb≠b):Rd rd a n cap (w.setCell ⟨b,j,none⟩ u) :=
 h.kept (row:=some b) ⟨rfl,rfl,rfl,by simp[World.setCell],fun k _ hk=>Below.heap_setCell _ _ _ _ (fun e=>hk (by rw[e]))⟩ (fun e=>hb (by simpa using e.symm)) (fun cb off h1 h2 e=>hc cb off h1 h2 (by simpa using e))
theorem grown_set3 {w w':World} {row:Option Nat} (h:w.grownBy w' row) (b:Nat) (u v x:Value) (hp:w.heap.size≤b):w.grownBy (((w'.setCell ⟨b,0,none⟩ u).setCell ⟨b,1,none⟩ v).setCell ⟨b,2,none⟩ x) row:=grown_setC (grown_setC (grown_setC h _ _ hp) _ _ hp) _ _ hp
theorem disk_set3 {w:World} {b:Nat} {u v x u' v' x':Value} {t:TypeId} (h:w.heap[b]? = some (.cells #[u,v,x] t (0,0))):(((w.setCell ⟨b,0,none⟩ u').setCell ⟨b,1,none⟩ v').setCell ⟨b,2,none⟩ x').heap[b]? = some (.cells #[u',v',x'] t (0,0)):=dk_set (j:=2) (dk_set (j:=1) (dk_set (j:=0) h))
theorem other_set3 {W:World} {b q0:Nat} {u v x:Value} (h:q0≠b):(((W.setCell ⟨b,0,none⟩ u).setCell ⟨b,1,none⟩ v).setCell ⟨b,2,none⟩ x).heap[q0]? = W.heap[q0]? := by
 rw[Below.heap_setCell _ _ _ _ h,Below.heap_setCell _ _ _ _ h,Below.heap_setCell _ _ _ _ h]
theorem DkF.set3 {W:World} {lo b:Nat} {x1 x2 x3:Option Addr} {k1 k2 k3:Nat} {live safe:List PairL} {ops:List DOpL} (h:DkF W lo x1 x2 x3 k1 k2 k3 live safe ops) (hb:b<lo) (u v x:Value):DkF (((W.setCell ⟨b,0,none⟩ u).setCell ⟨b,1,none⟩ v).setCell ⟨b,2,none⟩ x) lo x1 x2 x3 k1 k2 k3 live safe ops:=((h.set _ hb _).set _ hb _).set _ hb _
theorem DkG.set3 {W:World} {lo b:Nat} {x1 x2 x3:Option Addr} {k1 k2 k3:Nat} {live safe:List PairL} {ops:List DOpL} (h:DkG W lo x1 x2 x3 k1 k2 k3 live safe ops) (hb:b<lo) (u v x:Value):DkG (((W.setCell ⟨b,0,none⟩ u).setCell ⟨b,1,none⟩ v).setCell ⟨b,2,none⟩ x) lo x1 x2 x3 k1 k2 k3 live safe ops:=((h.set _ hb _).set _ hb _).set _ hb _
def DkPost (w:World) (rd n cap:Nat) (a:Option Addr) (e:Ending) (w':World):Prop :=
 ∃ (x1 x2 x3:Option Addr) (k1 k2 k3:Nat) (live safe:List PairL) (ops:List DOpL),e=.returned (.agg #[.slice x1 live.length k1,.slice x2 safe.length k2,.slice x3 ops.length k3])∧DkG w' w.heap.size x1 x2 x3 k1 k2 k3 live safe ops∧DSz live safe ops∧ops.length≤10∧Rd rd a n cap w'∧w.grownBy w' (some rd)
theorem dkg_end {w W:World} {rd n cap l1 l2 l3:Nat} {a:Option Addr} {x1 x2 x3:Option Addr} {k1 k2 k3:Nat} {live safe:List PairL} {ops:List DOpL} (hD:DkG W (w.heap.size+2) x1 x2 x3 k1 k2 k3 live safe ops) (e1:l1=live.length) (e2:l2=safe.length) (e3:l3=ops.length) (hS:DSz live safe ops) (hl:ops.length≤10) (hR:Rd rd a n cap W) (hG:w.grownBy W (some rd)) (hrd:rd<w.heap.size) (hc:∀ cb off,a=some ⟨cb,off,none⟩→n≠0→cb<w.heap.size) :
 DkPost w rd n cap a (.returned (.agg #[.slice x1 l1 k1,.slice x2 l2 k2,.slice x3 l3 k3])) (((W.setCell ⟨w.heap.size,0,none⟩ (.slice x1 l1 k1)).setCell ⟨w.heap.size,1,none⟩ (.slice x2 l2 k2)).setCell ⟨w.heap.size,2,none⟩ (.slice x3 l3 k3)):=by
 subst e1 e2 e3
 exact⟨x1,x2,x3,k1,k2,k3,live,safe,ops,rfl,(hD.set3 (by omega) _ _ _).lower (by omega),hS,hl,rd_set3 hR _ _ _ _ (by omega) (fun cb off h1 h2=>by have:=hc cb off h1 h2;omega),grown_set3 hG _ _ _ _ (Nat.le_refl _)⟩
def DReg (W0 wx:World) (rd n cap lo bs:Nat) (a:Option Addr) (x1 x2 x3:Option Addr) (k1 k2 k3:Nat) (rl rs:List PairL) (ro:List DOpL) (cd:Int):Prop :=
 wx.heap[bs]? = some (.cells #[.slice x1 rl.length k1,.slice x2 rs.length k2,.slice x3 ro.length k3] 31 (0,0))∧lo≤bs∧(cd=0→DkF wx lo x1 x2 x3 k1 k2 k3 rl rs ro)∧Rd rd a n cap wx∧W0.grownBy wx (some rd)
theorem dreg_new {W0 Y c9:World} {rd n cap lo:Nat} {a x1 x2 x3:Option Addr} {k1 k2 k3:Nat} {rl rs:List PairL} {ro:List DOpL} {cd:Int} (hlo:lo≤Y.heap.size) (n1:NewR c9 Y.heap.size x1 (pcells rl)) (n2:NewR c9 Y.heap.size x2 (pcells rs)) (n3:NewR c9 Y.heap.size x3 (dcells ro)) (hx:cd=0→AddrK x1 k1∧AddrK x2 k2∧AddrL x3 k3 ro.length∧LiveF c9 Y.heap.size x1 rl.length k1 (pcells rl) x2 (pcells rs) x3 (dcells ro)) (b9:Below Y.heap.size Y c9) (hR:Rd rd a n cap Y) (hG:W0.grownBy Y (some rd)) :
 DReg W0 (c9.alloc (.cells #[.slice x1 rl.length k1,.slice x2 rs.length k2,.slice x3 ro.length k3] 31)) rd n cap lo c9.heap.size a x1 x2 x3 k1 k2 k3 rl rs ro cd:=by
 have b8:Below c9.heap.size c9 (c9.alloc (.cells #[.slice x1 rl.length k1,.slice x2 rs.length k2,.slice x3 ro.length k3] 31)):=(Below.refl _ _).alloc (Nat.le_refl _) _
 have hs:=b9.size
 refine⟨heap_alloc_new c9 _,by omega,fun h=>?_,(hR.keptNone b9).keptNone b8,hG.trans ((grown_of_below b9 _).trans (grown_of_below b8 _))⟩
 obtain⟨a1,a2,a3,row,h4,h5⟩:=hx h
 exact (show DkF c9 Y.heap.size x1 x2 x3 k1 k2 k3 rl rs ro from ⟨n1,n2,n3,a1,a2,a3,row,h4,h5⟩).later b8 |>.lower hlo
theorem dreg_store {W0 Y c9:World} {rd n cap lo bs:Nat} {a x1 x2 x3:Option Addr} {k1 k2 k3:Nat} {rl rs:List PairL} {ro:List DOpL} {cd:Int} (hz:c9.heap[bs]? = some (.cells #[.slice none 0 0,.slice none 0 0,.slice none 0 0] 31 (0,0))) (hb:lo≤bs) (hbY:bs<Y.heap.size) (hb0:W0.heap.size≤bs) (n1:NewR c9 Y.heap.size x1 (pcells rl)) (n2:NewR c9 Y.heap.size x2 (pcells rs)) (n3:NewR c9 Y.heap.size x3 (dcells ro)) (hx:cd=0→AddrK x1 k1∧AddrK x2 k2∧AddrL x3 k3 ro.length∧LiveF c9 Y.heap.size x1 rl.length k1 (pcells rl) x2 (pcells rs) x3 (dcells ro)) (b9:Below Y.heap.size Y c9) (hR:Rd rd a n cap Y) (hG:W0.grownBy Y (some rd)) (hrd:rd<W0.heap.size) (hc:∀ cb off,a=some ⟨cb,off,none⟩→n≠0→cb<W0.heap.size) :
 DReg W0 (((c9.setCell ⟨bs,0,none⟩ (.slice x1 rl.length k1)).setCell ⟨bs,1,none⟩ (.slice x2 rs.length k2)).setCell ⟨bs,2,none⟩ (.slice x3 ro.length k3)) rd n cap lo bs a x1 x2 x3 k1 k2 k3 rl rs ro cd:=by
 have hs:=b9.size
 refine⟨disk_set3 hz,hb,fun h=>?_,rd_set3 (hR.keptNone b9) _ _ _ _ (by omega) (fun cb off h1 h2=>by have:=hc cb off h1 h2;omega),grown_set3 (hG.trans (grown_of_below b9 _)) _ _ _ _ hb0⟩
 obtain⟨a1,a2,a3,row,h4,h5⟩:=hx h
 exact ((show DkF c9 Y.heap.size x1 x2 x3 k1 k2 k3 rl rs ro from ⟨n1,n2,n3,a1,a2,a3,row,h4,h5⟩).set3 hbY _ _ _).lower (by omega)
theorem dsz_zz {live safe:List PairL} {ops:List DOpL} (h:DSz live safe ops) (hl:live.length≤60):DSz (live ++ [([122,122],[])]) safe ops:=by
 obtain⟨⟨h1,h2,h3⟩,h4,h5,h6⟩:=h
 refine⟨⟨by simp at *;omega,fun p hp=>?_,h3⟩,h4,by simp;omega,h6⟩
 rcases List.mem_append.1 hp with hp | hp
 · exact h2 p hp
 · simp at hp;subst hp;exact⟨by simp,by simp⟩
theorem dsz_tail {live safe:List PairL} {o:DOpL} {ops:List DOpL} (h:DSz live safe (o :: ops)):DSz live safe ops:=by
 obtain⟨⟨h1,h2,h3,h4,h5,h6⟩,h7,h8,h9⟩:=h
 exact⟨⟨h1,h2,h3,h4,by simp at h5;simp only;omega,fun p hp=>h6 p (List.mem_cons_of_mem _ hp)⟩,fun p hp=>h7 p (List.mem_cons_of_mem _ hp),h8,h9⟩
theorem newA_tail {W:World} {lo:Nat} {g:Nat} {o:DOpL} {ops:List DOpL} (h:NewR W lo (some ⟨g,0,none⟩) (dcells (o :: ops))):NewA W lo (some ⟨g,4,none⟩) (dcells ops):=by
 rcases h with h | ⟨g',h0,h1,h2,h3⟩
 · simp[dcells] at h
 · cases h0
   refine .inr ⟨_,4,rfl,h1,h2,fun j hj=>?_⟩
   have:=h3 (4+j) (by rw[dcells_length] at *;simp;omega)
   rw[this,Nat.add_comm]
   rfl
theorem sync_len {live safe:List PairL} {ops:List DOpL} (h:live.length≤60):(syncL live safe ops).length≤60:=by
 unfold syncL
 split
 · exact h
 · simp
theorem do_len60 {live safe rl rs:List PairL} {ops ro:List DOpL} {o:DOpL} {cd:Int} (hr:(rl,rs,ro,cd)=doL live safe ops o) (hc:cd=0):rl.length≤60:=by
 unfold doL at hr
 by_cases hk:diskOk live safe ops=true
 · rw[if_pos hk] at hr
   have hc':(actL live safe ops o).2.2.2=0:=by rw[←hr];exact hc
   have hok:=act_ok hk hc'
   rw[←hr] at hok
   simp only[diskOk,Bool.and_eq_true,decide_eq_true_eq] at hok
   exact (rise_files hok.1).2.2.1
 · rw[if_neg hk] at hr
   simp only[Prod.mk.injEq] at hr
   rw[hr.1];simp
theorem size_mono {W W':World} (h:Below W.heap.size W W'):W.heap.size≤W'.heap.size:=h.size
theorem nil_cells {ops:List DOpL} (h:ops.length=0):dcells ops=[]:=by rw[List.length_eq_zero_iff.1 h];rfl
theorem dsz_big (bg:List UInt8) (hm:bg.length≤200000):DSz [([98,105,103],bg)] [([98,105,103],bg)] []:=by
 have hp:∀ p∈[(([98,105,103],bg):PairL)],p.1.length≤1048576∧p.2.length≤1048576:=fun p hp=>by simp at hp;subst hp;exact⟨by simp,by simp only;omega⟩
 exact⟨⟨by simp,hp,by simp,hp,by simp,by simp⟩,by simp,by simp,by simp⟩
set_option maxRecDepth 100000 in
set_option maxHeartbeats 8000000 in
theorem disk_any (rd n cap : Nat) (a : Option Addr) (w : World) (hn : n ≤ 1048576) (h : Rd rd a n cap w) :
 Calls Try.prog 68 #[.pointer (some ⟨rd,0,none⟩)] w fun e w'=>DkPost w rd n cap a e w':=by
 obtain⟨i0,hi0,hz0,hz1,hz2⟩:=info_parts infoFile
 obtain⟨ti0,hti0,tz0,tz1,tz2⟩:=info_parts info5
 have HRDL:Hid (rd<w.heap.size):=h.lt
 have HCODE:Hid (∀ cb off,a=some ⟨cb,off,none⟩→n≠0→cb<w.heap.size):=h.code
 obtain⟨wa,hwa⟩:∃ wa,wa=(w.alloc (.cells #[.slice none 0 0,.slice none 0 0,.slice none 0 0] 31)).alloc (.cells #[.slice none 0 0,.slice none 0 0,.slice none 0 0] 31):=⟨_,rfl⟩
 have Ba:Below w.heap.size w wa:=by rw[hwa];exact ((Below.refl _ _).alloc (Nat.le_refl _) _).alloc (by simp) _
 have XBa:Hid (wa.heap[w.heap.size]? = some (.cells #[.slice none 0 0,.slice none 0 0,.slice none 0 0] 31 (0,0))):=by rw[hwa,Hid,Below.heap_alloc _ _ _ (by simp)];exact heap_alloc_new w _
 have XDa:Hid (wa.heap[w.heap.size+1]? = some (.cells #[.slice none 0 0,.slice none 0 0,.slice none 0 0] 31 (0,0))):=by
  rw[hwa,Hid]
  have:=heap_alloc_new (w.alloc (.cells #[.slice none 0 0,.slice none 0 0,.slice none 0 0] 31)) (.cells #[.slice none 0 0,.slice none 0 0,.slice none 0 0] 31)
  simpa using this
 have K0:=size_any rd n cap a wa hn (h.keptNone Ba)
 have HGa:Hid (w.grownBy wa (some rd)):=grown_of_below Ba _
 clear h Ba
 go_enter Try.func68,Try.ntmps68
 go_wp2_with fail
 rw[←hwa]
 refine K0.mono ?_
 rintro e w1 ⟨sz,hs1,hs2,rfl,hR1,hG1⟩
 have XB1:Hid (w1.heap[w.heap.size]? = some (.cells #[.slice none 0 0,.slice none 0 0,.slice none 0 0] 31 (0,0))):=(hG1.block _ (lt_of_block XBa.out) (by simp;have:=HRDL.out;omega)).trans XBa.out
 have XD1:Hid (w1.heap[w.heap.size+1]? = some (.cells #[.slice none 0 0,.slice none 0 0,.slice none 0 0] 31 (0,0))):=(hG1.block _ (lt_of_block XDa.out) (by simp;have:=HRDL.out;omega)).trans XDa.out
 have HG1:Hid (w.grownBy w1 (some rd)):=HGa.out.trans hG1
 have HR1:Hid (Rd rd a n cap w1):=hR1
 clear K0 hR1 hG1 XBa XDa HGa hwa
 go_wp2
 go_loopw [4,5,6] (fun v4 v5 v6 wr=>∃ (j:Nat) (x1 x2 x3:Option Addr) (k1 k2 k3:Nat) (live safe:List PairL) (ops:List DOpL),v4=.int .i64 (j:Int)∧j≤10∧ops.length+j≤10∧live.length≤60∧Hid (wr.heap[w.heap.size+1]? = some (.cells #[.slice x1 live.length k1,.slice x2 safe.length k2,.slice x3 ops.length k3] 31 (0,0)))∧Hid (wr.heap[w.heap.size]? = some (.cells #[.slice none 0 0,.slice none 0 0,.slice none 0 0] 31 (0,0)))∧Hid (DkF wr (w.heap.size+2) x1 x2 x3 k1 k2 k3 live safe ops)∧Hid (DSz live safe ops)∧Hid (Rd rd a n cap wr)∧Hid (w.grownBy wr (some rd))) (fun v4 _ _ _=>(intOf v4).toNat)
 case atStart=>exact⟨sz,none,none,none,0,0,0,[],[],[],rfl,hs2,by simp;omega,by simp,XD1,XB1,dkf_nil _ _,dsz_nil,HR1,HG1⟩
 case round =>
  obtain⟨j0,x1,x2,x3,k1,k2,k3,live,safe,ops,rfl,hj,hoj,hlv,XDwr,XBwr,DKwr,DZ,HRwr,HGwr⟩:=hrel
  have HOJ:Hid (ops.length+j0≤10):=hoj
  have HLV:Hid (live.length≤60):=hlv
  clear XD1 XB1 HR1 HG1 hoj hlv
  cases j0 with
  | zero =>
    have hzz:¬ ((0:Nat):Int) > 0:=by omega
    have hol:ops.length≤10:=by have:=HOJ.out;omega
    have HOL:Hid (ops.length≤10):=hol
    have K1:=below_any rd n cap 40 40 a wr rfl (by omega) (by omega) hn HRwr.out
    clear hol
    go_wp2_with fail
    refine K1.mono ?_
    rintro e w2 ⟨y,hy,rfl,hR2,hG2⟩
    have XDw2:Hid (w2.heap[w.heap.size+1]? = some (.cells #[.slice x1 live.length k1,.slice x2 safe.length k2,.slice x3 ops.length k3] 31 (0,0))):=(hG2.block _ (lt_of_block XDwr.out) (by simp;have:=HRDL.out;omega)).trans XDwr.out
    have XBw2:Hid (w2.heap[w.heap.size]? = some (.cells #[.slice none 0 0,.slice none 0 0,.slice none 0 0] 31 (0,0))):=(hG2.block _ (lt_of_block XBwr.out) (by simp;have:=HRDL.out;omega)).trans XBwr.out
    have DKw2:Hid (DkF w2 (w.heap.size+2) x1 x2 x3 k1 k2 k3 live safe ops):=DKwr.out.kept hG2 (fun g1 hg1 e=>by simp at e;have:=HRDL.out;omega)
    have HGw2:Hid (w.grownBy w2 (some rd)):=HGwr.out.trans hG2
    have HRw2:Hid (Rd rd a n cap w2):=hR2
    clear K1 hR2 hG2 XDwr XBwr DKwr HRwr HGwr
    by_cases y0:y=0
    · subst y0
      have DZ0:Hid (DSz (live ++ [([122,122],[])]) safe ops):=dsz_zz DZ.out HLV.out
      have HLL:Hid (live.length+1≤1048577):=by rw[Hid];have:=HLV.out;omega
      have HN0:Hid (w.heap.size+2≤w2.heap.size):=by rw[Hid];have:=lt_of_block XDw2.out;omega
      have HLIT:Hid ((w2.alloc (.cells #[.string ⟨#[122,122]⟩,.string ⟨#[]⟩] 84)).heap[w2.heap.size]? = some (.cells #[.string ⟨#[122,122]⟩,.string ⟨#[]⟩] 84 (0,0))):=heap_alloc_new w2 _
      have BL:Hid (Below w2.heap.size w2 (w2.alloc (.cells #[.string ⟨#[122,122]⟩,.string ⟨#[]⟩] 84))):=(Below.refl _ _).alloc (Nat.le_refl _) _
      obtain⟨n1,n2,n3,a1,a2,a3,row,h4,h5⟩:=DKw2.out
      have N2:Hid (NewA (w2.alloc (.cells #[.string ⟨#[122,122]⟩,.string ⟨#[]⟩] 84)) (w.heap.size+2) x2 (pcells safe)):=(n2.later BL.out).toA
      have N3:Hid (NewA (w2.alloc (.cells #[.string ⟨#[122,122]⟩,.string ⟨#[]⟩] 84)) (w.heap.size+2) x3 (dcells ops)):=(n3.later BL.out).toA
      have H4:Hid (GrowR (w2.alloc (.cells #[.string ⟨#[122,122]⟩,.string ⟨#[]⟩] 84)) (w.heap.size+2) 84 2 x1 live.length k1 (pcells live) row):=h4.later BL.out
      have HLT:Hid (∀ q,row=some q→w.heap.size+2≤q):=fun q hq=>(h4.lt q hq).1
      have H5:Hid (∀ q,row=some q→FarQ x2 (pcells safe) q∧FarQ x3 (dcells ops) q):=h5
      have HA:Hid (AddrK x2 k2∧AddrK x3 k3):=⟨a2,a3.1⟩
      have XDl:Hid ((w2.alloc (.cells #[.string ⟨#[122,122]⟩,.string ⟨#[]⟩] 84)).heap[w.heap.size+1]? = some (.cells #[.slice x1 live.length k1,.slice x2 safe.length k2,.slice x3 ops.length k3] 31 (0,0))):=(BL.out.block _ (lt_of_block XDw2.out)).trans XDw2.out
      have XBl:Hid ((w2.alloc (.cells #[.string ⟨#[122,122]⟩,.string ⟨#[]⟩] 84)).heap[w.heap.size]? = some (.cells #[.slice none 0 0,.slice none 0 0,.slice none 0 0] 31 (0,0))):=(BL.out.block _ (lt_of_block XBw2.out)).trans XBw2.out
      have HRl:Hid (Rd rd a n cap (w2.alloc (.cells #[.string ⟨#[122,122]⟩,.string ⟨#[]⟩] 84))):=HRw2.out.keptNone BL.out
      have HGl:Hid (w.grownBy (w2.alloc (.cells #[.string ⟨#[122,122]⟩,.string ⟨#[]⟩] 84)) (some rd)):=HGw2.out.trans (grown_of_below BL.out _)
      have h6s:w.heap.size+2≤(w2.alloc (.cells #[.string ⟨#[122,122]⟩,.string ⟨#[]⟩] 84)).heap.size:=by have:=BL.out.size;have:=HN0.out;omega
      have hl6:live.length+1≤1048577:=HLL.out
      obtain⟨d0,d1,d2,_⟩:=three_cells XDw2.out
      clear n1 n2 n3 a1 a2 a3 h4 h5 XDw2 XBw2 DKw2 HGw2 HRw2
      go_wp2_with (at_builtin;(refine wpList_append_grow rfl _ _ 28 rfl (w.heap.size+2) 84 i0 (.agg #[.string ⟨#[]⟩,.string ⟨#[]⟩]) 2 32 Try.underlying28 hi0 hz0 hz1 hz2 rfl (by decide) x1 live.length k1 (pcells live) row rfl H4.out ⟨w2.heap.size,0,none⟩ 1 1 [.string ⟨#[122,122]⟩,.string ⟨#[]⟩] rfl rfl (World.news_of_block (cs:=#[.string ⟨#[122,122]⟩,.string ⟨#[]⟩]) (t:=84) (fr:=(0,0)) HLIT.out) (by simp[Value.oneCell']) (by decide) hl6 (by decide) h6s ?_))
      intro g7 cap7 w7 hown7 hgrow7
      have XD7:Hid (w7.heap[w.heap.size+1]? = some (.cells #[.slice x1 live.length k1,.slice x2 safe.length k2,.slice x3 ops.length k3] 31 (0,0))):=(hgrow7.block _ (lt_of_block XDl.out) (fun e=>by have:=HLT.out _ e.symm;omega)).trans XDl.out
      have XB7:Hid (w7.heap[w.heap.size]? = some (.cells #[.slice none 0 0,.slice none 0 0,.slice none 0 0] 31 (0,0))):=(hgrow7.block _ (lt_of_block XBl.out) (fun e=>by have:=HLT.out _ e.symm;omega)).trans XBl.out
      have HO7:Hid (w7.ownsRow (w.heap.size+2) 84 2 (.slice (some ⟨g7,0,none⟩) (live.length+1) cap7) (live.length+1) (pcells live ++ [.string ⟨#[122,122]⟩,.string ⟨#[]⟩])):=hown7
      have N27:Hid (NewA w7 (w.heap.size+2) x2 (pcells safe)):=N2.out.keptQ hgrow7 (fun q hq=>(H5.out q hq).1)
      have N37:Hid (NewA w7 (w.heap.size+2) x3 (dcells ops)):=N3.out.keptQ hgrow7 (fun q hq=>(H5.out q hq).2)
      have HR7:Hid (Rd rd a n cap w7):=HRl.out.kept hgrow7 (fun e=>by have:=HLT.out _ e;have:=HRDL.out;omega) (fun cb off hc hne e=>by have h1:=HLT.out _ e.symm;have h2:=HCODE.out cb off hc hne;omega)
      have HG7:Hid (w.grownBy w7 (some rd)):=grown_more HGl.out hgrow7 (fun k hk=>.inl (by have:=HLT.out _ hk;omega))
      obtain⟨y0,y1,y2,yf⟩:=three_cells XD7.out
      have yf0:=yf 0
      obtain⟨q0,q1,q2,qf⟩:=three_cells XB7.out
      have qf0:=qf 0
      have qf1:=qf 1
      have qf2:=qf 2
      clear hown7 hgrow7 yf qf HLIT BL h6s
      have HDG:Hid (DkG w7 (w.heap.size+2) (some ⟨g7,0,none⟩) x2 x3 cap7 k2 k3 (live ++ [([122,122],[])]) safe ops):=⟨by rw[fcells_snoc];exact (newR_own HO7.out).toA,N27.out,N37.out,.inr ⟨_,_,rfl⟩,HA.out.1,HA.out.2⟩
      go_wp2
      refine bodyPost_ret (v:=.agg #[.slice (some ⟨g7,0,none⟩) (live.length+1) cap7,.slice x2 safe.length k2,.slice x3 ops.length k3]) (results_cell_row rfl _ _ w.heap.size 31 _ (0,0) _ rfl (disk_set3 ((Below.heap_setCell w7 ⟨w.heap.size+1,0,none⟩ (.slice (some ⟨g7,0,none⟩) (live.length+1) cap7) w.heap.size (by simp)).trans XB7.out)) Try.underlying31 rfl (by kernel_rfl)) rfl ?_
      exact dkg_end (W:=w7.setCell ⟨w.heap.size+1,0,none⟩ (.slice (some ⟨g7,0,none⟩) (live.length+1) cap7)) (HDG.out.set _ (by simp) _) (by simp) rfl rfl DZ0.out HOL.out (rd_set1 HR7.out _ _ _ (by have:=HRDL.out;omega) (fun cb off h1 h2=>by have:=HCODE.out cb off h1 h2;omega)) (grown_setC HG7.out _ _ (by simp)) HRDL.out HCODE.out
    · have y0' : ((y : Int) == 0) = false := by simp only [beq_eq_false_iff_ne, ne_eq]; omega
      by_cases y1:y=1
      · subst y1
        cases ops with
        | nil =>
          have XD0:Hid (w2.heap[w.heap.size+1]? = some (.cells #[.slice x1 live.length k1,.slice x2 safe.length k2,.slice x3 0 k3] 31 (0,0))):=XDw2
          obtain⟨d0,d1,d2,_⟩:=three_cells XD0.out
          obtain⟨r0,r1,r2,rf⟩:=three_cells XBw2.out
          have rf0:=rf 0
          have rf1:=rf 1
          have rf2:=rf 2
          have FX:Hid (((((w2.setCell ⟨w.heap.size,0,none⟩ (.slice x1 live.length k1)).setCell ⟨w.heap.size,1,none⟩ (.slice x2 safe.length k2)).setCell ⟨w.heap.size,2,none⟩ (.slice x3 0 k3))).heap[w.heap.size]? = some (.cells #[.slice x1 live.length k1,.slice x2 safe.length k2,.slice x3 0 k3] 31 (0,0))):=disk_set3 XBw2.out
          have FP:Hid (DkPost w rd n cap a (.returned (.agg #[.slice x1 live.length k1,.slice x2 safe.length k2,.slice x3 0 k3])) ((((w2.setCell ⟨w.heap.size,0,none⟩ (.slice x1 live.length k1)).setCell ⟨w.heap.size,1,none⟩ (.slice x2 safe.length k2)).setCell ⟨w.heap.size,2,none⟩ (.slice x3 0 k3)))):=dkg_end DKw2.out.toG rfl rfl rfl DZ.out (by simp) HRw2.out HGw2.out HRDL.out HCODE.out
          clear rf XDw2 XBw2 DKw2 HGw2 HRw2 DZ XD0
          go_wp2
          refine bodyPost_ret (v:=.agg #[.slice x1 live.length k1,.slice x2 safe.length k2,.slice x3 0 k3]) (results_cell_row rfl _ _ w.heap.size 31 _ (0,0) _ rfl FX.out Try.underlying31 rfl (by kernel_rfl)) rfl ?_
          exact FP.out
        | cons o ops =>
          obtain⟨n1,n2,n3,a1,a2,a3,h4⟩:=DKw2.out
          obtain⟨g,hg⟩:∃ g,x3=some ⟨g,0,none⟩:=by
           rcases n3 with h | ⟨g,h0,_⟩
           · simp[dcells] at h
           · exact⟨g,h0⟩
          subst hg
          have HTA:Hid (NewA w2 (w.heap.size+2) (some ⟨g,4,none⟩) (dcells ops)):=newA_tail n3
          have HCAP:Hid (ops.length+1≤k3):=a3.2
          have HTN:Hid (NewA w2 (w.heap.size+2) (some ⟨g,0,none⟩) (dcells [])):=.inl rfl
          have XD0:Hid (w2.heap[w.heap.size+1]? = some (.cells #[.slice x1 live.length k1,.slice x2 safe.length k2,.slice (some ⟨g,0,none⟩) (ops.length+1) k3] 31 (0,0))):=XDw2
          obtain⟨d0,d1,d2,df⟩:=three_cells XD0.out
          have df2:=df 2
          obtain⟨r0,r1,r2,rf⟩:=three_cells XBw2.out
          have rf0:=rf 0
          have rf1:=rf 1
          have rf2:=rf 2
          have hc1:1≤k3:=by have:=HCAP.out;omega
          have hc2:ops.length+1≤k3:=HCAP.out
          clear df rf XD0
          by_cases hk1:k3=1
          · have h0:ops=[]:=List.length_eq_zero_iff.1 (by omega)
            subst hk1 h0
            simp only[List.length_nil,Nat.zero_add] at d2
            clear hc1 hc2
            have FX:Hid ((((((w2.setCell ⟨w.heap.size+1,2,none⟩ (.slice (some ⟨g,0,none⟩) 0 0)).setCell ⟨w.heap.size,0,none⟩ (.slice x1 live.length k1)).setCell ⟨w.heap.size,1,none⟩ (.slice x2 safe.length k2)).setCell ⟨w.heap.size,2,none⟩ (.slice (some ⟨g,0,none⟩) 0 0))).heap[w.heap.size]? = some (.cells #[.slice x1 live.length k1,.slice x2 safe.length k2,.slice (some ⟨g,0,none⟩) 0 0] 31 (0,0))):=disk_set3 ((Below.heap_setCell w2 ⟨w.heap.size+1,2,none⟩ (.slice (some ⟨g,0,none⟩) 0 0) w.heap.size (by simp)).trans XBw2.out)
            have FP:Hid (DkPost w rd n cap a (.returned (.agg #[.slice x1 live.length k1,.slice x2 safe.length k2,.slice (some ⟨g,0,none⟩) 0 0])) (((((w2.setCell ⟨w.heap.size+1,2,none⟩ (.slice (some ⟨g,0,none⟩) 0 0)).setCell ⟨w.heap.size,0,none⟩ (.slice x1 live.length k1)).setCell ⟨w.heap.size,1,none⟩ (.slice x2 safe.length k2)).setCell ⟨w.heap.size,2,none⟩ (.slice (some ⟨g,0,none⟩) 0 0)))):=dkg_end (W:=w2.setCell ⟨w.heap.size+1,2,none⟩ (.slice (some ⟨g,0,none⟩) 0 0)) (DkG.set (show DkG w2 (w.heap.size+2) x1 x2 (some ⟨g,0,none⟩) k1 k2 0 live safe [] from ⟨n1.toA,n2.toA,HTN.out,a1,a2,.inr ⟨_,_,rfl⟩⟩) _ (by simp) _) rfl rfl rfl (dsz_tail DZ.out) (by have:=HOL.out;simp at this;omega) (rd_set1 HRw2.out _ _ _ (by have:=HRDL.out;omega) (fun cb off h1 h2=>by have:=HCODE.out cb off h1 h2;omega)) (grown_setC HGw2.out _ _ (by simp)) HRDL.out HCODE.out
            clear n1 n2 n3 a1 a2 a3 h4 XDw2 XBw2 DKw2 HGw2 HRw2 DZ HTA HTN HCAP
            go_wp2
            refine bodyPost_ret (v:=.agg #[.slice x1 live.length k1,.slice x2 safe.length k2,.slice (some ⟨g,0,none⟩) 0 0]) (results_cell_row rfl _ _ w.heap.size 31 _ (0,0) _ rfl FX.out Try.underlying31 rfl (by kernel_rfl)) rfl ?_
            exact FP.out
          · have FX:Hid ((((((w2.setCell ⟨w.heap.size+1,2,none⟩ (.slice (some ⟨g,4,none⟩) ops.length (k3 - 1))).setCell ⟨w.heap.size,0,none⟩ (.slice x1 live.length k1)).setCell ⟨w.heap.size,1,none⟩ (.slice x2 safe.length k2)).setCell ⟨w.heap.size,2,none⟩ (.slice (some ⟨g,4,none⟩) ops.length (k3 - 1)))).heap[w.heap.size]? = some (.cells #[.slice x1 live.length k1,.slice x2 safe.length k2,.slice (some ⟨g,4,none⟩) ops.length (k3 - 1)] 31 (0,0))):=disk_set3 ((Below.heap_setCell w2 ⟨w.heap.size+1,2,none⟩ (.slice (some ⟨g,4,none⟩) ops.length (k3 - 1)) w.heap.size (by simp)).trans XBw2.out)
            have FP:Hid (DkPost w rd n cap a (.returned (.agg #[.slice x1 live.length k1,.slice x2 safe.length k2,.slice (some ⟨g,4,none⟩) ops.length (k3 - 1)])) (((((w2.setCell ⟨w.heap.size+1,2,none⟩ (.slice (some ⟨g,4,none⟩) ops.length (k3 - 1))).setCell ⟨w.heap.size,0,none⟩ (.slice x1 live.length k1)).setCell ⟨w.heap.size,1,none⟩ (.slice x2 safe.length k2)).setCell ⟨w.heap.size,2,none⟩ (.slice (some ⟨g,4,none⟩) ops.length (k3 - 1))))):=dkg_end (W:=w2.setCell ⟨w.heap.size+1,2,none⟩ (.slice (some ⟨g,4,none⟩) ops.length (k3 - 1))) (DkG.set (show DkG w2 (w.heap.size+2) x1 x2 (some ⟨g,4,none⟩) k1 k2 (k3 - 1) live safe ops from ⟨n1.toA,n2.toA,HTA.out,a1,a2,.inr ⟨_,_,rfl⟩⟩) _ (by simp) _) rfl rfl rfl (dsz_tail DZ.out) (by have:=HOL.out;simp at this;omega) (rd_set1 HRw2.out _ _ _ (by have:=HRDL.out;omega) (fun cb off h1 h2=>by have:=HCODE.out cb off h1 h2;omega)) (grown_setC HGw2.out _ _ (by simp)) HRDL.out HCODE.out
            clear n1 n2 n3 a1 a2 a3 h4 XDw2 XBw2 DKw2 HGw2 HRw2 DZ HTA HTN HCAP
            go_wp2
            refine bodyPost_ret (v:=.agg #[.slice x1 live.length k1,.slice x2 safe.length k2,.slice (some ⟨g,4,none⟩) ops.length (k3 - 1)]) (results_cell_row rfl _ _ w.heap.size 31 _ (0,0) _ rfl FX.out Try.underlying31 rfl (by kernel_rfl)) rfl ?_
            exact FP.out
      · have y1':((y:Int) == 1)=false:=by simp only[beq_eq_false_iff_ne,ne_eq];omega
        by_cases y2:y=2
        · subst y2
          have K2:=below_any rd n cap 9 9 a w2 rfl (by omega) (by omega) hn HRw2.out
          go_wp2_with fail
          refine K2.mono ?_
          rintro e w3 ⟨z,hz,rfl,hR3,hG3⟩
          have XDw3:Hid (w3.heap[w.heap.size+1]? = some (.cells #[.slice x1 live.length k1,.slice x2 safe.length k2,.slice x3 ops.length k3] 31 (0,0))):=(hG3.block _ (lt_of_block XDw2.out) (by simp;have:=HRDL.out;omega)).trans XDw2.out
          have XBw3:Hid (w3.heap[w.heap.size]? = some (.cells #[.slice none 0 0,.slice none 0 0,.slice none 0 0] 31 (0,0))):=(hG3.block _ (lt_of_block XBw2.out) (by simp;have:=HRDL.out;omega)).trans XBw2.out
          have DKw3:Hid (DkF w3 (w.heap.size+2) x1 x2 x3 k1 k2 k3 live safe ops):=DKw2.out.kept hG3 (fun g1 hg1 e=>by simp at e;have:=HRDL.out;omega)
          have HGw3:Hid (w.grownBy w3 (some rd)):=HGw2.out.trans hG3
          have HRw3:Hid (Rd rd a n cap w3):=hR3
          obtain⟨m,hm⟩:∃ m:Nat,m+z=200000:=⟨200000 - z,by omega⟩
          have hmz:(200000:Int) - (z:Int)=(m:Int):=by omega
          have hm2:m≤200000:=by omega
          clear K2 hR3 hG3 XDw2 XBw2 DKw2 HGw2 HRw2 DKw3 DZ hm hz
          go_wp2_with (at_make;(refine wpList_make_full _ rfl _ _ 57 rfl w3.heap.size 5 ti0 (.int .u8 0) 1 Try.underlying57 hti0 tz0 tz1 _ _ _ _ m rfl rfl (by omega) (by omega) (by rw[tz2];omega) (by unfold maxLen;omega) (Nat.le_refl _) ?_))
          intro w4 hown0 hgrow0
          rw[toList_madeCells_one] at hown0
          have hown1:w4.ownsRow w3.heap.size 5 1 (.slice (some ⟨w3.heap.size,0,none⟩) m m) m (bcells (List.replicate m 0)):=(by simpa [bcells] using hown0)
          obtain⟨bg,hbg⟩:∃ x:List UInt8,x=List.replicate m 0:=⟨_,rfl⟩
          have HM2:Hid (bg.length≤200000):=by rw[Hid,hbg];simp;exact hm2
          rw[←hbg] at hown1
          clear hbg
          have hcv:=own_string (P:=Try.prog) Try.underlying57 Try.underlying5 Try.underlying9 hown1
          have b4:Below w3.heap.size w3 w4:=⟨hgrow0.os,hgrow0.tape,hgrow0.output,hgrow0.size,fun k hk=>hgrow0.block k hk (by simp)⟩
          have XD4:Hid (w4.heap[w.heap.size+1]? = some (.cells #[.slice x1 live.length k1,.slice x2 safe.length k2,.slice x3 ops.length k3] 31 (0,0))):=(b4.block _ (lt_of_block XDw3.out)).trans XDw3.out
          have XB4:Hid (w4.heap[w.heap.size]? = some (.cells #[.slice none 0 0,.slice none 0 0,.slice none 0 0] 31 (0,0))):=(b4.block _ (lt_of_block XBw3.out)).trans XBw3.out
          have HR4:Hid (Rd rd a n cap w4):=HRw3.out.keptNone b4
          have HG4:Hid (w.grownBy w4 (some rd)):=HGw3.out.trans (grown_of_below b4 _)
          have B5:Below w4.heap.size w4 (w4.alloc (.cells #[.string ⟨#[98,105,103]⟩,.string ⟨bg.toArray⟩] 84)):=(Below.refl _ _).alloc (Nat.le_refl _) _
          have XD5:Hid ((w4.alloc (.cells #[.string ⟨#[98,105,103]⟩,.string ⟨bg.toArray⟩] 84)).heap[w.heap.size+1]? = some (.cells #[.slice x1 live.length k1,.slice x2 safe.length k2,.slice x3 ops.length k3] 31 (0,0))):=(B5.block _ (lt_of_block XD4.out)).trans XD4.out
          have XB5:Hid ((w4.alloc (.cells #[.string ⟨#[98,105,103]⟩,.string ⟨bg.toArray⟩] 84)).heap[w.heap.size]? = some (.cells #[.slice none 0 0,.slice none 0 0,.slice none 0 0] 31 (0,0))):=(B5.block _ (lt_of_block XB4.out)).trans XB4.out
          have lt4:w.heap.size+1<w4.heap.size:=lt_of_block XD4.out
          have XL5:Hid ((w4.alloc (.cells #[.string ⟨#[98,105,103]⟩,.string ⟨bg.toArray⟩] 84)).heap[w4.heap.size]? = some (.cells #[.string ⟨#[98,105,103]⟩,.string ⟨bg.toArray⟩] 84 (0,0))):=heap_alloc_new w4 _
          have HA5:NewA (w4.alloc (.cells #[.string ⟨#[98,105,103]⟩,.string ⟨bg.toArray⟩] 84)) (w.heap.size+2) (some ⟨w4.heap.size,0,none⟩) (pcells [([98,105,103],bg)]):=.inr ⟨w4.heap.size,0,rfl,by omega,by simp,fun j hj=>by
           have e1:(pcells [([98,105,103],bg)]).length=2:=rfl
           rw[Nat.zero_add,cell_of_row _ _ j _ _ _ XL5.out]
           simp[pcells]⟩
          have HD5:DkG (w4.alloc (.cells #[.string ⟨#[98,105,103]⟩,.string ⟨bg.toArray⟩] 84)) (w.heap.size+2) (some ⟨w4.heap.size,0,none⟩) (some ⟨w4.heap.size,0,none⟩) none 1 1 0 [([98,105,103],bg)] [([98,105,103],bg)] []:=⟨HA5,HA5,.inl rfl,.inr ⟨_,_,rfl⟩,.inr ⟨_,_,rfl⟩,.inl ⟨rfl,rfl⟩⟩
          have HCD:∀ cb off,a=some ⟨cb,off,none⟩→n≠0→cb≠w.heap.size+1:=fun cb off h1 h2=>by have:=HCODE.out cb off h1 h2;omega
          have hrd1:rd≠w.heap.size+1:=by have:=HRDL.out;omega
          have HD6:Hid (DkG ((((w4.alloc (.cells #[.string ⟨#[98,105,103]⟩,.string ⟨bg.toArray⟩] 84)).setCell ⟨w.heap.size+1,0,none⟩ (.slice (some ⟨w4.heap.size,0,none⟩) 1 1)).setCell ⟨w.heap.size+1,1,none⟩ (.slice none 0 0)).setCell ⟨w.heap.size+1,2,none⟩ (.slice none 0 0)) (w.heap.size+2) (some ⟨w4.heap.size,0,none⟩) (some ⟨w4.heap.size,0,none⟩) none 1 1 0 [([98,105,103],bg)] [([98,105,103],bg)] []):=HD5.set3 (by omega) _ _ _
          have HR6:Hid (Rd rd a n cap ((((w4.alloc (.cells #[.string ⟨#[98,105,103]⟩,.string ⟨bg.toArray⟩] 84)).setCell ⟨w.heap.size+1,0,none⟩ (.slice (some ⟨w4.heap.size,0,none⟩) 1 1)).setCell ⟨w.heap.size+1,1,none⟩ (.slice none 0 0)).setCell ⟨w.heap.size+1,2,none⟩ (.slice none 0 0))):=rd_set3 (HR4.out.keptNone B5) _ _ _ _ hrd1 HCD
          have HG6:Hid (w.grownBy ((((w4.alloc (.cells #[.string ⟨#[98,105,103]⟩,.string ⟨bg.toArray⟩] 84)).setCell ⟨w.heap.size+1,0,none⟩ (.slice (some ⟨w4.heap.size,0,none⟩) 1 1)).setCell ⟨w.heap.size+1,1,none⟩ (.slice none 0 0)).setCell ⟨w.heap.size+1,2,none⟩ (.slice none 0 0)) (some rd)):=grown_set3 (HG4.out.trans (grown_of_below B5 _)) _ _ _ _ (by omega)
          have XB6:Hid (((((w4.alloc (.cells #[.string ⟨#[98,105,103]⟩,.string ⟨bg.toArray⟩] 84)).setCell ⟨w.heap.size+1,0,none⟩ (.slice (some ⟨w4.heap.size,0,none⟩) 1 1)).setCell ⟨w.heap.size+1,1,none⟩ (.slice none 0 0)).setCell ⟨w.heap.size+1,2,none⟩ (.slice none 0 0)).heap[w.heap.size]? = some (.cells #[.slice none 0 0,.slice none 0 0,.slice none 0 0] 31 (0,0))):=(other_set3 (by omega)).trans XB5.out
          have XD6:Hid (((((w4.alloc (.cells #[.string ⟨#[98,105,103]⟩,.string ⟨bg.toArray⟩] 84)).setCell ⟨w.heap.size+1,0,none⟩ (.slice (some ⟨w4.heap.size,0,none⟩) 1 1)).setCell ⟨w.heap.size+1,1,none⟩ (.slice none 0 0)).setCell ⟨w.heap.size+1,2,none⟩ (.slice none 0 0)).heap[w.heap.size+1]? = some (.cells #[.slice (some ⟨w4.heap.size,0,none⟩) 1 1,.slice none 0 0,.slice none 0 0] 31 (0,0))):=disk_set3 XD5.out
          have HCDH:Hid (∀ cb off,a=some ⟨cb,off,none⟩→n≠0→cb≠w.heap.size+1):=HCD
          obtain⟨d0,d1,d2,df⟩:=three_cells XD5.out
          have df0:=df 0
          have df1:=df 1
          have df2:=df 2
          clear df hown0 hown1 hgrow0 b4 XD4 XB4 HR4 HG4 B5 XD5 XB5 XL5 HA5 HD5 HCD XDw3 XBw3 HRw3 HGw3 hm2 lt4 hrd1
          go_upto_region 18 with fail
          obtain⟨w6,hw6⟩:∃ W,W=((((w4.alloc (.cells #[.string ⟨#[98,105,103]⟩,.string ⟨bg.toArray⟩] 84)).setCell ⟨w.heap.size+1,0,none⟩ (.slice (some ⟨w4.heap.size,0,none⟩) 1 1)).setCell ⟨w.heap.size+1,1,none⟩ (.slice none 0 0)).setCell ⟨w.heap.size+1,2,none⟩ (.slice none 0 0)):=⟨_,rfl⟩
          rw[←hw6] at HD6 HR6 HG6 XB6 XD6 ⊢
          clear hw6 d0 d1 d2 df0 df1 df2
          have HD7:Hid (DkG (w6.setCell ⟨w.heap.size+1,1,none⟩ (.slice (some ⟨w4.heap.size,0,none⟩) 1 1)) (w.heap.size+2) (some ⟨w4.heap.size,0,none⟩) (some ⟨w4.heap.size,0,none⟩) none 1 1 0 [([98,105,103],bg)] [([98,105,103],bg)] []):=HD6.out.set _ (by simp) _
          have HR7:Hid (Rd rd a n cap (w6.setCell ⟨w.heap.size+1,1,none⟩ (.slice (some ⟨w4.heap.size,0,none⟩) 1 1))):=rd_set1 HR6.out _ _ _ (by have:=HRDL.out;omega) HCDH.out
          have HG7:Hid (w.grownBy (w6.setCell ⟨w.heap.size+1,1,none⟩ (.slice (some ⟨w4.heap.size,0,none⟩) 1 1)) (some rd)):=grown_setC HG6.out _ _ (by simp)
          have XB7:Hid ((w6.setCell ⟨w.heap.size+1,1,none⟩ (.slice (some ⟨w4.heap.size,0,none⟩) 1 1)).heap[w.heap.size]? = some (.cells #[.slice none 0 0,.slice none 0 0,.slice none 0 0] 31 (0,0))):=(Below.heap_setCell _ _ _ _ (by simp)).trans XB6.out
          obtain⟨d0,d1,d2,df⟩:=three_cells XD6.out
          have df1:=df 1
          obtain⟨r0,r1,r2,rf⟩:=three_cells XB6.out
          have rf0:=rf 0
          have rf1:=rf 1
          have rf2:=rf 2
          clear df rf HD6 HR6 HG6 XB6 XD6 HCDH
          go_wp2
          refine bodyPost_ret (v:=.agg #[.slice (some ⟨w4.heap.size,0,none⟩) 1 1,.slice (some ⟨w4.heap.size,0,none⟩) 1 1,.slice none 0 0]) (results_cell_row rfl _ _ w.heap.size 31 _ (0,0) _ rfl (disk_set3 XB7.out) Try.underlying31 rfl (by kernel_rfl)) rfl ?_
          exact dkg_end (W:=w6.setCell ⟨w.heap.size+1,1,none⟩ (.slice (some ⟨w4.heap.size,0,none⟩) 1 1)) HD7.out rfl rfl rfl (dsz_big bg HM2.out) (by simp) HR7.out HG7.out HRDL.out HCODE.out
        · have y2':((y:Int) == 2)=false:=by simp only[beq_eq_false_iff_ne,ne_eq];omega
          obtain⟨d0,d1,d2,_⟩:=three_cells XDw2.out
          obtain⟨r0,r1,r2,rf⟩:=three_cells XBw2.out
          have rf0:=rf 0
          have rf1:=rf 1
          have rf2:=rf 2
          have FX:Hid (((((w2.setCell ⟨w.heap.size,0,none⟩ (.slice x1 live.length k1)).setCell ⟨w.heap.size,1,none⟩ (.slice x2 safe.length k2)).setCell ⟨w.heap.size,2,none⟩ (.slice x3 ops.length k3))).heap[w.heap.size]? = some (.cells #[.slice x1 live.length k1,.slice x2 safe.length k2,.slice x3 ops.length k3] 31 (0,0))):=disk_set3 XBw2.out
          have FP:Hid (DkPost w rd n cap a (.returned (.agg #[.slice x1 live.length k1,.slice x2 safe.length k2,.slice x3 ops.length k3])) ((((w2.setCell ⟨w.heap.size,0,none⟩ (.slice x1 live.length k1)).setCell ⟨w.heap.size,1,none⟩ (.slice x2 safe.length k2)).setCell ⟨w.heap.size,2,none⟩ (.slice x3 ops.length k3)))):=dkg_end DKw2.out.toG rfl rfl rfl DZ.out HOL.out HRw2.out HGw2.out HRDL.out HCODE.out
          clear rf XDw2 XBw2 DKw2 HGw2 HRw2 DZ
          go_wp2
          refine bodyPost_ret (v:=.agg #[.slice x1 live.length k1,.slice x2 safe.length k2,.slice x3 ops.length k3]) (results_cell_row rfl _ _ w.heap.size 31 _ (0,0) _ rfl FX.out Try.underlying31 rfl (by kernel_rfl)) rfl ?_
          exact FP.out
  | succ j =>
    have hjp:¬ ((j+1:Nat):Int)≤0:=by omega
    have hjp2:(0:Int)<((j+1:Nat):Int):=by omega
    have hj9:j≤9:=by omega
    have K1:=once_any rd n cap 5 5 a wr rfl (by omega) (by omega) hn HRwr.out
    go_wp2_with fail
    refine K1.mono ?_
    rintro e w2 ⟨t,rfl,hR2,hG2⟩
    have XDw2:Hid (w2.heap[w.heap.size+1]? = some (.cells #[.slice x1 live.length k1,.slice x2 safe.length k2,.slice x3 ops.length k3] 31 (0,0))):=(hG2.block _ (lt_of_block XDwr.out) (by simp;have:=HRDL.out;omega)).trans XDwr.out
    have XBw2:Hid (w2.heap[w.heap.size]? = some (.cells #[.slice none 0 0,.slice none 0 0,.slice none 0 0] 31 (0,0))):=(hG2.block _ (lt_of_block XBwr.out) (by simp;have:=HRDL.out;omega)).trans XBwr.out
    have DKw2:Hid (DkF w2 (w.heap.size+2) x1 x2 x3 k1 k2 k3 live safe ops):=DKwr.out.kept hG2 (fun g1 hg1 e=>by simp at e;have:=HRDL.out;omega)
    have HGw2:Hid (w.grownBy w2 (some rd)):=HGwr.out.trans hG2
    have HRw2:Hid (Rd rd a n cap w2):=hR2
    clear K1 hR2 hG2 XDwr XBwr DKwr HRwr HGwr
    cases t with
    | true =>
      have K2:=spec_syncG x1 x2 x3 k1 k2 k3 live safe ops w2 DKw2.out.2.2.2.2.1.ok DZ.out.1.1 DZ.out.1.2.1 DZ.out.1.2.2.1 DZ.out.1.2.2.2.1 DZ.out.1.2.2.2.2.1 DZ.out.1.2.2.2.2.2 DKw2.out.1.pairs DKw2.out.2.1.pairs DKw2.out.2.2.1.dops
      have HSY:=dsz_sync DZ.out
      have HSL:=sync_len (safe:=safe) (ops:=ops) HLV.out
      obtain⟨sy,hsy⟩:∃ x,x=syncL live safe ops:=⟨_,rfl⟩
      rw[←hsy] at K2 HSY HSL
      have HDS:Hid (DSz sy sy []):=HSY
      have HSL':Hid (sy.length≤60):=HSL
      unfold SPostG at K2
      obtain⟨d0,d1,d2,_⟩:=three_cells XDw2.out
      clear hsy HSY HSL
      go_wp2_with fail
      refine K2.mono ?_
      rintro e w3 ⟨y1,y2,y3,q1,q2,q3,rfl,n1,n2,n3,b3,ha1,ha2,ha3,row,h4,h5⟩
      have lt2:=lt_of_block XDw2.out
      have XD3:Hid (w3.heap[w.heap.size+1]? = some (.cells #[.slice x1 live.length k1,.slice x2 safe.length k2,.slice x3 ops.length k3] 31 (0,0))):=(b3.block _ (lt_of_block XDw2.out)).trans XDw2.out
      have XB3:Hid (w3.heap[w.heap.size]? = some (.cells #[.slice none 0 0,.slice none 0 0,.slice none 0 0] 31 (0,0))):=(b3.block _ (lt_of_block XBw2.out)).trans XBw2.out
      have DK3:DkF w3 w2.heap.size y1 y2 y3 q1 q2 q3 sy sy []:=⟨n1,n2,n3,ha1,ha2,ha3,row,h4,h5⟩
      have FD:Hid ((((w3.setCell ⟨w.heap.size+1,0,none⟩ (.slice y1 sy.length q1)).setCell ⟨w.heap.size+1,1,none⟩ (.slice y2 sy.length q2)).setCell ⟨w.heap.size+1,2,none⟩ (.slice y3 0 q3)).heap[w.heap.size+1]? = some (.cells #[.slice y1 sy.length q1,.slice y2 sy.length q2,.slice y3 0 q3] 31 (0,0))):=disk_set3 XD3.out
      have FB:Hid ((((w3.setCell ⟨w.heap.size+1,0,none⟩ (.slice y1 sy.length q1)).setCell ⟨w.heap.size+1,1,none⟩ (.slice y2 sy.length q2)).setCell ⟨w.heap.size+1,2,none⟩ (.slice y3 0 q3)).heap[w.heap.size]? = some (.cells #[.slice none 0 0,.slice none 0 0,.slice none 0 0] 31 (0,0))):=(other_set3 (by omega)).trans XB3.out
      have FK:Hid (DkF (((w3.setCell ⟨w.heap.size+1,0,none⟩ (.slice y1 sy.length q1)).setCell ⟨w.heap.size+1,1,none⟩ (.slice y2 sy.length q2)).setCell ⟨w.heap.size+1,2,none⟩ (.slice y3 0 q3)) (w.heap.size+2) y1 y2 y3 q1 q2 q3 sy sy []):=(DK3.set3 (by omega) _ _ _).lower (by omega)
      have FR:Hid (Rd rd a n cap (((w3.setCell ⟨w.heap.size+1,0,none⟩ (.slice y1 sy.length q1)).setCell ⟨w.heap.size+1,1,none⟩ (.slice y2 sy.length q2)).setCell ⟨w.heap.size+1,2,none⟩ (.slice y3 0 q3))):=rd_set3 (HRw2.out.keptNone b3) _ _ _ _ (by have:=HRDL.out;omega) (fun cb off h1 h2=>by have:=HCODE.out cb off h1 h2;omega)
      have FG:Hid (w.grownBy (((w3.setCell ⟨w.heap.size+1,0,none⟩ (.slice y1 sy.length q1)).setCell ⟨w.heap.size+1,1,none⟩ (.slice y2 sy.length q2)).setCell ⟨w.heap.size+1,2,none⟩ (.slice y3 0 q3)) (some rd)):=grown_set3 (HGw2.out.trans (grown_of_below b3 _)) _ _ _ _ (by omega)
      obtain⟨r0,r1,r2,rf⟩:=three_cells XD3.out
      have rf0:=rf 0
      have rf1:=rf 1
      have rf2:=rf 2
      clear rf n1 n2 n3 b3 ha1 ha2 ha3 h4 h5 DK3 XD3 XB3 K2 XDw2 XBw2 DKw2 HGw2 HRw2 DZ d0 d1 d2 lt2
      go_wp2
      go_roundw
      case rel=>exact⟨j,y1,y2,y3,q1,q2,q3,sy,sy,[],by go_num,by omega,by have:=HOJ.out;simp;omega,HSL'.out,FD,FB,FK,HDS,FR,FG⟩
      case measure=>simp[intOf]
    | false =>
      have BR:Below w2.heap.size w2 w2:=Below.refl _ _
      have HRB:Hid (∀ W,Below w2.heap.size w2 W→Rd rd a n cap W):=fun W hW=>HRw2.out.keptNone hW
      have HSB:Hid (∀ W,Below w2.heap.size w2 W→W.cell? ⟨w.heap.size+1,0,none⟩=some (.slice x1 live.length k1)∧W.cell? ⟨w.heap.size+1,1,none⟩=some (.slice x2 safe.length k2)∧W.cell? ⟨w.heap.size+1,2,none⟩=some (.slice x3 ops.length k3)):=fun W hW=>by
       obtain⟨c0,c1,c2,_⟩:=three_cells ((hW.block _ (lt_of_block XDw2.out)).trans XDw2.out)
       exact⟨c0,c1,c2⟩
      have HDKB:Hid (∀ W,w2.grownBy W (some rd)→DkF W (w.heap.size+2) x1 x2 x3 k1 k2 k3 live safe ops):=fun W hW=>DKw2.out.kept hW (fun g1 hg1 e=>by simp at e;have:=HRDL.out;omega)
      have HLO:Hid (w.heap.size+2≤w2.heap.size∧rd<w2.heap.size):=⟨lt_of_block XDw2.out,HRw2.out.lt⟩
      have HCO:Hid (∀ cb off,a=some ⟨cb,off,none⟩→n≠0→cb<w2.heap.size):=HRw2.out.code
      have HDSZ:Hid (SizeD (live,safe,ops,0)):=DZ.out.1
      obtain⟨d0,d1,d2,_⟩:=three_cells XDw2.out
      go_wp2_with fail
      go_cut [5,6] from 10 to 27 (fun v5 v6 wx=>∃ (bs:Nat) (y1 y2 y3:Option Addr) (q1 q2 q3:Nat) (rl rs:List PairL) (ro:List DOpL) (cd:Int) (o:DOpL),v5=.pointer (some ⟨bs,0,none⟩)∧v6=.int .i64 cd∧Hid (DReg w2 wx rd n cap (w.heap.size+2) bs a y1 y2 y3 q1 q2 q3 rl rs ro cd)∧Hid (o.n.length≤56∧o.t.length≤56∧o.d.length≤56∧(rl,rs,ro,cd)=doL live safe ops o))
      case first =>
       go_region_held3 (fun w'=>w'.cell? ⟨w.heap.size+1,0,none⟩=some (.slice x1 live.length k1)∧w'.cell? ⟨w.heap.size+1,1,none⟩=some (.slice x2 safe.length k2)∧w'.cell? ⟨w.heap.size+1,2,none⟩=some (.slice x3 ops.length k3))
        (first | with_reducible exact S15.out | exact HS2.out _ (by repeat' first | with_reducible exact Below.refl _ _ | with_reducible apply below_drew1 | (with_reducible refine below_lit ?_ (Nat.le_refl _) _)) | exact HSC.out _ (by repeat' first | with_reducible exact Below.refl _ _ | with_reducible apply below_drew1 | (with_reducible refine below_lit ?_ (Nat.le_refl _) _)) | exact HSB.out _ (by repeat' first | with_reducible exact BR | with_reducible apply below_drew1 | (with_reducible refine below_lit ?_ (Nat.le_refl _) _)))
        (first
         | (go_at_call 69
            with_reducible refine (dop_any rd n cap a _ hn (HRB.out _ (by repeat' first | with_reducible exact BR | with_reducible apply below_drew1 | (with_reducible refine below_lit ?_ (Nat.le_refl _) _)))).mono ?_
            rintro e wp1 ⟨ok,nm,tt,dd,hnm,htt,hdd,rfl,hRp,hGp⟩
            have GP:Hid (w2.grownBy wp1 (some rd)):=(grown_of_below (by repeat' first | with_reducible exact BR | with_reducible apply below_drew1 | (with_reducible refine below_lit ?_ (Nat.le_refl _) _)) _).trans hGp
            have RP:Hid (Rd rd a n cap wp1):=hRp
            have DP:Hid (DkF wp1 (w.heap.size+2) x1 x2 x3 k1 k2 k3 live safe ops):=HDKB.out wp1 GP.out
            have HSC:Hid (∀ W,Below wp1.heap.size wp1 W→W.cell? ⟨w.heap.size+1,0,none⟩=some (.slice x1 live.length k1)∧W.cell? ⟨w.heap.size+1,1,none⟩=some (.slice x2 safe.length k2)∧W.cell? ⟨w.heap.size+1,2,none⟩=some (.slice x3 ops.length k3)):=fun W hW=>by
             obtain⟨c0,c1,c2,_⟩:=three_cells ((hW.block _ (lt_of_block ((GP.out.block _ (lt_of_block XDw2.out) (by simp;have:=HRDL.out;omega)).trans XDw2.out))).trans ((GP.out.block _ (lt_of_block XDw2.out) (by simp;have:=HRDL.out;omega)).trans XDw2.out))
             exact⟨c0,c1,c2⟩
            have HOS:Hid (nm.length≤56∧tt.length≤56∧dd.length≤56):=⟨hnm,htt,hdd⟩
            have VP:Hid (∀ (B:Nat) (o:Obj),B≠rd→_=some o→wp1.heap[B]? = some o):=fun B o hB ho=>(hGp.block B (lt_of_block ho) (by simpa using hB)).trans ho
            clear hRp hGp hnm htt hdd)
         | (go_at_call 18
            have KD:=fun Y (hY:Below wp1.heap.size wp1 Y)=>spec_doXG x1 x2 x3 k1 k2 k3 live safe ops ok nm tt dd Y DP.out.2.2.2.1.ok DP.out.2.2.2.2.1.ok HDSZ.out.1 HDSZ.out.2.1 HDSZ.out.2.2.1 HDSZ.out.2.2.2.1 HDSZ.out.2.2.2.2.1 HDSZ.out.2.2.2.2.2 (by have:=HOS.out;omega) (by have:=HOS.out;omega) (by have:=HOS.out;omega) (DP.out.later hY).1.pairs (DP.out.later hY).2.1.pairs (DP.out.later hY).2.2.1.dops
            unfold APostG at KD
            obtain⟨rr,hrr⟩:∃ x,x=doL live safe ops ⟨ok,nm,tt,dd⟩:=⟨_,rfl⟩
            rw[←hrr] at KD
            obtain⟨rl,rs,ro,cd⟩:=rr
            dsimp only at KD
            have HRR:Hid ((rl,rs,ro,cd)=doL live safe ops ⟨ok,nm,tt,dd⟩):=hrr
            clear hrr
            with_reducible refine (KD _ (by repeat' first | with_reducible exact Below.refl _ _ | with_reducible apply below_drew1 | (with_reducible refine below_lit ?_ (Nat.le_refl _) _))).mono ?_
            rintro e wp2 ⟨y1,y2,y3,q1,q2,q3,rfl,n1,n2,n3,_,_,b9,hx9⟩
            have XDP:Hid (wp2.heap[w.heap.size+1]? = some (.cells #[.slice x1 live.length k1,.slice x2 safe.length k2,.slice x3 ops.length k3] 31 (0,0))):=((below_via (by repeat' first | with_reducible exact Below.refl _ _ | with_reducible apply below_drew1 | (with_reducible refine below_lit ?_ (Nat.le_refl _) _)) (Nat.le_refl _) b9:Below wp1.heap.size wp1 wp2).block _ (lt_of_block ((GP.out.block _ (lt_of_block XDw2.out) (by simp;have:=HRDL.out;omega)).trans XDw2.out))).trans ((GP.out.block _ (lt_of_block XDw2.out) (by simp;have:=HRDL.out;omega)).trans XDw2.out)
            have HS2:Hid (∀ W,Below wp2.heap.size wp2 W→W.cell? ⟨w.heap.size+1,0,none⟩=some (.slice x1 live.length k1)∧W.cell? ⟨w.heap.size+1,1,none⟩=some (.slice x2 safe.length k2)∧W.cell? ⟨w.heap.size+1,2,none⟩=some (.slice x3 ops.length k3)):=fun W hW=>by
             obtain⟨c0,c1,c2,_⟩:=three_cells ((hW.block _ (lt_of_block XDP.out)).trans XDP.out)
             exact⟨c0,c1,c2⟩
            first
             | (have EV : _ = some (Obj.cells #[.slice none 0 0, .slice none 0 0, .slice none 0 0] 31 (0, 0)) := VP.out w2.heap.size _ (by have := HLO.out; omega) (heap_alloc_new w2.drew (.cells #[.slice none 0 0, .slice none 0 0, .slice none 0 0] 31))
                have LY:w2.heap.size<wp1.heap.size:=lt_of_block EV
                have HN:Hid (wp2.heap[w2.heap.size]? = some (.cells #[.slice none 0 0,.slice none 0 0,.slice none 0 0] 31 (0,0))):=(Below.block b9 _ LY).trans EV
                have RY:Rd rd a n cap wp1:=RP.out
                have GY:w2.grownBy wp1 (some rd):=GP.out
                have hbl:w.heap.size+2≤w2.heap.size:=HLO.out.1
                have hne:w.heap.size+1≠w2.heap.size:=by omega
                have S15:Hid ((((wp2.setCell ⟨w2.heap.size,0,none⟩ (.slice y1 rl.length q1)).setCell ⟨w2.heap.size,1,none⟩ (.slice y2 rs.length q2)).setCell ⟨w2.heap.size,2,none⟩ (.slice y3 ro.length q3)).cell? ⟨w.heap.size+1,0,none⟩=some (.slice x1 live.length k1)∧(((wp2.setCell ⟨w2.heap.size,0,none⟩ (.slice y1 rl.length q1)).setCell ⟨w2.heap.size,1,none⟩ (.slice y2 rs.length q2)).setCell ⟨w2.heap.size,2,none⟩ (.slice y3 ro.length q3)).cell? ⟨w.heap.size+1,1,none⟩=some (.slice x2 safe.length k2)∧(((wp2.setCell ⟨w2.heap.size,0,none⟩ (.slice y1 rl.length q1)).setCell ⟨w2.heap.size,1,none⟩ (.slice y2 rs.length q2)).setCell ⟨w2.heap.size,2,none⟩ (.slice y3 ro.length q3)).cell? ⟨w.heap.size+1,2,none⟩=some (.slice x3 ops.length k3)):=by
                 obtain⟨c0,c1,c2,_⟩:=three_cells ((other_set3 (W:=wp2) (q0:=w.heap.size+1) (b:=w2.heap.size) hne).trans XDP.out)
                 exact⟨c0,c1,c2⟩
                have TS:Hid (DReg w2 (((wp2.setCell ⟨w2.heap.size,0,none⟩ (.slice y1 rl.length q1)).setCell ⟨w2.heap.size,1,none⟩ (.slice y2 rs.length q2)).setCell ⟨w2.heap.size,2,none⟩ (.slice y3 ro.length q3)) rd n cap (w.heap.size+2) (w2.heap.size) a y1 y2 y3 q1 q2 q3 rl rs ro cd):=dreg_store (Y:=wp1) HN.out hbl LY (Nat.le_refl _) n1 n2 n3 hx9 b9 RY GY HLO.out.2 HCO.out
                obtain⟨z0,z1,z2,zf⟩:=three_cells HN.out
                have zf0:=zf 0
                have zf1:=zf 1
                have zf2:=zf 2
                clear zf EV LY RY GY hbl hne)
             | (have EV : _ = some (Obj.cells #[.slice none 0 0, .slice none 0 0, .slice none 0 0] 31 (0, 0)) := heap_alloc_new wp1 (.cells #[.slice none 0 0, .slice none 0 0, .slice none 0 0] 31)
                have LY:wp1.heap.size<(wp1.alloc (.cells #[.slice none 0 0,.slice none 0 0,.slice none 0 0] 31)).heap.size:=lt_of_block EV
                have HN:Hid (wp2.heap[wp1.heap.size]? = some (.cells #[.slice none 0 0,.slice none 0 0,.slice none 0 0] 31 (0,0))):=(Below.block b9 _ LY).trans EV
                have RY:Rd rd a n cap (wp1.alloc (.cells #[.slice none 0 0,.slice none 0 0,.slice none 0 0] 31)):=RP.out.keptNone ((Below.refl _ _).alloc (Nat.le_refl _) _)
                have GY:w2.grownBy (wp1.alloc (.cells #[.slice none 0 0,.slice none 0 0,.slice none 0 0] 31)) (some rd):=GP.out.trans (World.grownBy_alloc wp1 _ _)
                have hbl:w.heap.size+2≤wp1.heap.size:=(by have:=HLO.out;have:=GP.out.size;omega)
                have hne:w.heap.size+1≠wp1.heap.size:=by omega
                have S15:Hid ((((wp2.setCell ⟨wp1.heap.size,0,none⟩ (.slice y1 rl.length q1)).setCell ⟨wp1.heap.size,1,none⟩ (.slice y2 rs.length q2)).setCell ⟨wp1.heap.size,2,none⟩ (.slice y3 ro.length q3)).cell? ⟨w.heap.size+1,0,none⟩=some (.slice x1 live.length k1)∧(((wp2.setCell ⟨wp1.heap.size,0,none⟩ (.slice y1 rl.length q1)).setCell ⟨wp1.heap.size,1,none⟩ (.slice y2 rs.length q2)).setCell ⟨wp1.heap.size,2,none⟩ (.slice y3 ro.length q3)).cell? ⟨w.heap.size+1,1,none⟩=some (.slice x2 safe.length k2)∧(((wp2.setCell ⟨wp1.heap.size,0,none⟩ (.slice y1 rl.length q1)).setCell ⟨wp1.heap.size,1,none⟩ (.slice y2 rs.length q2)).setCell ⟨wp1.heap.size,2,none⟩ (.slice y3 ro.length q3)).cell? ⟨w.heap.size+1,2,none⟩=some (.slice x3 ops.length k3)):=by
                 obtain⟨c0,c1,c2,_⟩:=three_cells ((other_set3 (W:=wp2) (q0:=w.heap.size+1) (b:=wp1.heap.size) hne).trans XDP.out)
                 exact⟨c0,c1,c2⟩
                have TS:Hid (DReg w2 (((wp2.setCell ⟨wp1.heap.size,0,none⟩ (.slice y1 rl.length q1)).setCell ⟨wp1.heap.size,1,none⟩ (.slice y2 rs.length q2)).setCell ⟨wp1.heap.size,2,none⟩ (.slice y3 ro.length q3)) rd n cap (w.heap.size+2) (wp1.heap.size) a y1 y2 y3 q1 q2 q3 rl rs ro cd):=dreg_store (Y:=(wp1.alloc (.cells #[.slice none 0 0,.slice none 0 0,.slice none 0 0] 31))) HN.out hbl LY GP.out.size n1 n2 n3 hx9 b9 RY GY HLO.out.2 HCO.out
                obtain⟨z0,z1,z2,zf⟩:=three_cells HN.out
                have zf0:=zf 0
                have zf1:=zf 1
                have zf2:=zf 2
                clear zf EV LY RY GY hbl hne)
             | skip
            have TN:Hid (∀ Y9:World,(n1:NewR wp2 Y9.heap.size y1 (pcells rl))→(n2:NewR wp2 Y9.heap.size y2 (pcells rs))→True):=fun _ _ _=>trivial
            have M1:Hid (NewR wp2 wp1.heap.size y1 (pcells rl)):=new_via (by repeat' first | with_reducible exact Below.refl _ _ | with_reducible apply below_drew1 | (with_reducible refine below_lit ?_ (Nat.le_refl _) _)) (Nat.le_refl _) n1
            have M2:Hid (NewR wp2 wp1.heap.size y2 (pcells rs)):=new_via (by repeat' first | with_reducible exact Below.refl _ _ | with_reducible apply below_drew1 | (with_reducible refine below_lit ?_ (Nat.le_refl _) _)) (Nat.le_refl _) n2
            have M3:Hid (NewR wp2 wp1.heap.size y3 (dcells ro)):=new_via (by repeat' first | with_reducible exact Below.refl _ _ | with_reducible apply below_drew1 | (with_reducible refine below_lit ?_ (Nat.le_refl _) _)) (Nat.le_refl _) n3
            have M9:Hid (Below wp1.heap.size wp1 wp2):=below_via (by repeat' first | with_reducible exact Below.refl _ _ | with_reducible apply below_drew1 | (with_reducible refine below_lit ?_ (Nat.le_refl _) _)) (Nat.le_refl _) b9
            have MX:Hid (cd=0→AddrK y1 q1∧AddrK y2 q2∧AddrL y3 q3 ro.length∧LiveF wp2 wp1.heap.size y1 rl.length q1 (pcells rl) y2 (pcells rs) y3 (dcells ro)):=fun h=>by
             obtain⟨h1,h2,h3,row9,h4,h5⟩:=hx9 h
             exact⟨h1,h2,h3,row9,h4.lower (size_mono (by repeat' first | with_reducible exact Below.refl _ _ | with_reducible apply below_drew1 | (with_reducible refine below_lit ?_ (Nat.le_refl _) _))),h5⟩
            clear TN n1 n2 n3 b9 hx9 KD))
       all_goals go_wp2_with fail
       all_goals go_meet
       all_goals first
        | exact⟨_,y1,y2,y3,q1,q2,q3,rl,rs,ro,cd,⟨ok,nm,tt,dd⟩,rfl,rfl,TS,HOS.out.1,HOS.out.2.1,HOS.out.2.2,HRR.out⟩
        | exact⟨wp2.heap.size,y1,y2,y3,q1,q2,q3,rl,rs,ro,cd,⟨ok,nm,tt,dd⟩,rfl,rfl,dreg_new (by have:=HLO.out;have:=GP.out.size;omega) M1.out M2.out M3.out MX.out M9.out RP.out GP.out,HOS.out.1,HOS.out.2.1,HOS.out.2.2,HRR.out⟩
      case rest =>
       obtain⟨bs,y1,y2,y3,q1,q2,q3,rl,rs,ro,cd,o,rfl,rfl,HDR,HOO⟩:=hcut
       obtain⟨w4,rfl⟩:∃ W,W=wc:=⟨_,rfl⟩
       obtain⟨R1,R2,R3,R4,R5⟩:=HDR.out
       have XB4:Hid (w4.heap[w.heap.size]? = some (.cells #[.slice none 0 0,.slice none 0 0,.slice none 0 0] 31 (0,0))):=(R5.block _ (lt_of_block XBw2.out) (by simp;have:=HRDL.out;omega)).trans XBw2.out
       have XD4:Hid (w4.heap[w.heap.size+1]? = some (.cells #[.slice x1 live.length k1,.slice x2 safe.length k2,.slice x3 ops.length k3] 31 (0,0))):=(R5.block _ (lt_of_block XDw2.out) (by simp;have:=HRDL.out;omega)).trans XDw2.out
       have HG4:Hid (w.grownBy w4 (some rd)):=HGw2.out.trans R5
       have DK4:Hid (DkF w4 (w.heap.size+2) x1 x2 x3 k1 k2 k3 live safe ops):=HDKB.out w4 R5
       have XN4:Hid (w4.heap[bs]? = some (.cells #[.slice y1 rl.length q1,.slice y2 rs.length q2,.slice y3 ro.length q3] 31 (0,0))):=R1
       have HR4:Hid (Rd rd a n cap w4):=R4
       have HX4:Hid (cd=0→DkF w4 (w.heap.size+2) y1 y2 y3 q1 q2 q3 rl rs ro):=R3
       have HBS:Hid (w.heap.size+2≤bs):=R2
       clear HDR R1 R2 R3 R4 R5 XDw2 XBw2 DKw2 HGw2 HRw2 HRB HSB HDKB HLO HCO HDSZ BR d0 d1 d2
       by_cases hc0:cd=0
       · have HZ:=dsz_do DZ.out (by have:=HOO.out;omega) (by have:=HOO.out;omega) (by have:=HOO.out;omega) HOO.out.2.2.2 hc0
         have HL60:=do_len60 HOO.out.2.2.2 hc0
         have FK0:=HX4.out hc0
         subst hc0
         have DZ9:Hid (DSz rl rs ro):=HZ.1
         have HLN:Hid (ro.length=ops.length+1):=HZ.2
         have HLV9:Hid (rl.length≤60):=HL60
         have FD:Hid ((((w4.setCell ⟨w.heap.size+1,0,none⟩ (.slice y1 rl.length q1)).setCell ⟨w.heap.size+1,1,none⟩ (.slice y2 rs.length q2)).setCell ⟨w.heap.size+1,2,none⟩ (.slice y3 ro.length q3)).heap[w.heap.size+1]? = some (.cells #[.slice y1 rl.length q1,.slice y2 rs.length q2,.slice y3 ro.length q3] 31 (0,0))):=disk_set3 XD4.out
         have FB:Hid ((((w4.setCell ⟨w.heap.size+1,0,none⟩ (.slice y1 rl.length q1)).setCell ⟨w.heap.size+1,1,none⟩ (.slice y2 rs.length q2)).setCell ⟨w.heap.size+1,2,none⟩ (.slice y3 ro.length q3)).heap[w.heap.size]? = some (.cells #[.slice none 0 0,.slice none 0 0,.slice none 0 0] 31 (0,0))):=(other_set3 (by omega)).trans XB4.out
         have FK:Hid (DkF (((w4.setCell ⟨w.heap.size+1,0,none⟩ (.slice y1 rl.length q1)).setCell ⟨w.heap.size+1,1,none⟩ (.slice y2 rs.length q2)).setCell ⟨w.heap.size+1,2,none⟩ (.slice y3 ro.length q3)) (w.heap.size+2) y1 y2 y3 q1 q2 q3 rl rs ro):=FK0.set3 (by omega) _ _ _
         have FR:Hid (Rd rd a n cap (((w4.setCell ⟨w.heap.size+1,0,none⟩ (.slice y1 rl.length q1)).setCell ⟨w.heap.size+1,1,none⟩ (.slice y2 rs.length q2)).setCell ⟨w.heap.size+1,2,none⟩ (.slice y3 ro.length q3))):=rd_set3 HR4.out _ _ _ _ (by have:=HRDL.out;omega) (fun cb off h1 h2=>by have:=HCODE.out cb off h1 h2;omega)
         have FG:Hid (w.grownBy (((w4.setCell ⟨w.heap.size+1,0,none⟩ (.slice y1 rl.length q1)).setCell ⟨w.heap.size+1,1,none⟩ (.slice y2 rs.length q2)).setCell ⟨w.heap.size+1,2,none⟩ (.slice y3 ro.length q3)) (some rd)):=grown_set3 HG4.out _ _ _ _ (by omega)
         obtain⟨e0,e1,e2,_⟩:=three_cells XN4.out
         obtain⟨r0,r1,r2,rf⟩:=three_cells XD4.out
         have rf0:=rf 0
         have rf1:=rf 1
         have rf2:=rf 2
         clear rf HZ HL60 FK0 HX4 HR4 HG4 DK4 XN4 XB4 XD4 HOO HBS DZ
         go_wp2
         go_roundw
         case rel=>exact⟨j,y1,y2,y3,q1,q2,q3,rl,rs,ro,by go_num,by omega,by have:=HOJ.out;have:=HLN.out;omega,HLV9.out,FD,FB,FK,DZ9,FR,FG⟩
         case measure=>simp[intOf]
       · have hcb:(cd == 0)=false:=by simpa using hc0
         clear HX4 XN4 HBS HOO
         go_wp2
         go_roundw
         case rel=>exact⟨j,x1,x2,x3,k1,k2,k3,live,safe,ops,by go_num,by omega,by have:=HOJ.out;omega,HLV.out,XD4,XB4,DK4,DZ,HR4,HG4⟩
         case measure=>simp[intOf]
def DdPost (w:World) (e:Ending) (w':World):Prop :=
 ∃ (x1 x2 x3:Option Addr) (k1 k2 k3:Nat) (live safe:List PairL) (ops:List DOpL),e=.returned (.agg #[.slice x1 live.length k1,.slice x2 safe.length k2,.slice x3 ops.length k3])∧DkG w' w.heap.size x1 x2 x3 k1 k2 k3 live safe ops∧DSz live safe ops∧ops.length≤10∧Below w.heap.size w w'
set_option maxRecDepth 100000 in
set_option maxHeartbeats 1000000 in
theorem drawDiskOk (n cap:Nat) (a:Option Addr) (w:World) (hn:n≤1048576) (h:Code w a n) :
 Calls Try.prog 35 #[.slice a n cap] w fun e w'=>DdPost w e w':=by
 obtain⟨wa,hwa⟩:∃ wa,wa=w.alloc (.cells #[.slice none 0 0,.slice none 0 0,.slice none 0 0] 31):=⟨_,rfl⟩
 have Ba:Below w.heap.size w wa:=by rw[hwa];exact (Below.refl _ _).alloc (Nat.le_refl _) _
 have Xa:Hid (wa.heap[w.heap.size]? = some (.cells #[.slice none 0 0,.slice none 0 0,.slice none 0 0] 31 (0,0))):=by rw[hwa];exact heap_alloc_new w _
 have K1:=open_any n cap a wa (h.later Ba)
 have lta:w.heap.size<wa.heap.size:=lt_of_block Xa.out
 clear h
 go_enter Try.func35,Try.ntmps35
 go_wp2_with fail
 rw[←hwa]
 refine K1.mono ?_
 rintro e w1 ⟨rfl,hR1,b1⟩
 have X1:Hid (w1.heap[w.heap.size]? = some (.cells #[.slice none 0 0,.slice none 0 0,.slice none 0 0] 31 (0,0))):=(b1.block _ lta).trans Xa.out
 have B1:Hid (Below w.heap.size w w1):=Ba.trans (b1.mono Ba.size)
 have K2:=disk_any wa.heap.size n cap a w1 hn hR1
 unfold DkPost at K2
 have lt1:w.heap.size<w1.heap.size:=lt_of_block X1.out
 clear K1 hR1 b1 Xa Ba hwa
 go_wp2_with fail
 refine K2.mono ?_
 rintro e w2 ⟨x1,x2,x3,k1,k2,k3,live,safe,ops,rfl,hD,hS,hl,hR2,hG2⟩
 have X2:Hid (w2.heap[w.heap.size]? = some (.cells #[.slice none 0 0,.slice none 0 0,.slice none 0 0] 31 (0,0))):=(hG2.block _ lt1 (by simp;omega)).trans X1.out
 have B2:Below w.heap.size w w2:=B1.out.grown hG2 B1.out.size (fun q hq=>by simp at hq;omega)
 have FD:Hid (DkG (((w2.setCell ⟨w.heap.size,0,none⟩ (.slice x1 live.length k1)).setCell ⟨w.heap.size,1,none⟩ (.slice x2 safe.length k2)).setCell ⟨w.heap.size,2,none⟩ (.slice x3 ops.length k3)) w.heap.size x1 x2 x3 k1 k2 k3 live safe ops):=(hD.set3 lt1 _ _ _).lower (by omega)
 have FB:Hid (Below w.heap.size w (((w2.setCell ⟨w.heap.size,0,none⟩ (.slice x1 live.length k1)).setCell ⟨w.heap.size,1,none⟩ (.slice x2 safe.length k2)).setCell ⟨w.heap.size,2,none⟩ (.slice x3 ops.length k3))):=((B2.setCell (by simp) _).setCell (by simp) _).setCell (by simp) _
 have FX:Hid ((((w2.setCell ⟨w.heap.size,0,none⟩ (.slice x1 live.length k1)).setCell ⟨w.heap.size,1,none⟩ (.slice x2 safe.length k2)).setCell ⟨w.heap.size,2,none⟩ (.slice x3 ops.length k3)).heap[w.heap.size]? = some (.cells #[.slice x1 live.length k1,.slice x2 safe.length k2,.slice x3 ops.length k3] 31 (0,0))):=disk_set3 X2.out
 have FS:Hid (DSz live safe ops∧ops.length≤10):=⟨hS,hl⟩
 obtain⟨r0,r1,r2,rf⟩:=three_cells X2.out
 have rf0:=rf 0
 have rf1:=rf 1
 have rf2:=rf 2
 clear rf hD hS hl hR2 hG2 B2 X2 X1 B1 K2 lta lt1
 go_wp2
 refine bodyPost_ret (v:=.agg #[.slice x1 live.length k1,.slice x2 safe.length k2,.slice x3 ops.length k3]) (results_cell_row rfl _ _ w.heap.size 31 _ (0,0) _ rfl FX.out Try.underlying31 rfl (by kernel_rfl)) rfl ?_
 exact⟨x1,x2,x3,k1,k2,k3,live,safe,ops,rfl,FD.out,FS.out.1,FS.out.2,FB.out⟩
end Go.Proofs.Ytlllkdioojjaeaa
