/-
 Tries in memory, and the closure that grows them.
-/
import Derived.Test.YtcoahmldmodmlaaGreatDoorTrieM
import Derived.Test.YtcoahmldmodmlaaGreatDoorSBuilds
namespace Go.Proofs.YtcoahmldmodmlaaGreatDoor
open Go.RowKit
set_option linter.unusedVariables false
def leafB (e:PairL):Obj:=.cells #[.int .i64 1,.string ⟨e.1.toArray⟩,.slice none 0 0,.string ⟨e.2.toArray⟩] 88 (0,0)
def longB (p:List UInt8) (g:Nat):Obj:=.cells #[.int .i64 2,.string ⟨p.toArray⟩,.slice (some ⟨g,0,none⟩) 1 1,.string ⟨#[]⟩] 88 (0,0)
def branchB (v:List UInt8) (g:Nat):Obj:=.cells #[.int .i64 3,.string ⟨#[]⟩,.slice (some ⟨g,0,none⟩) 16 16,.string ⟨v.toArray⟩] 88 (0,0)
def IsTrie (w : World) (lo : Nat) : Nat → Value → List PairL → Prop
 | 0,p,es=>es=[]∧p=.pointer none
 | f + 1, p, es =>
   (es=[]∧p=.pointer none) ∨
   (∃ b, lo ≤ b ∧ p = .pointer (some ⟨b, 0, none⟩) ∧
    ((∃ e, es = [e] ∧ w.heap[b]? = some (leafB e)) ∨
     (2≤es.length∧0<commonL es∧∃ g q,lo≤g∧w.heap[b]? = some (longB ((headP es).take (commonL es)) g)∧w.heap[g]? = some (.cells #[q] 70 (0,0))∧IsTrie w lo f q (cutE (commonL es) es)) ∨
     (2≤es.length∧¬ 0<commonL es∧∃ g qs,lo≤g∧w.heap[b]? = some (branchB (endV es) g)∧w.heap[g]? = some (.cells qs 70 (0,0))∧qs.size=16∧∀ d,d<16→IsTrie w lo f (qs.getD d undef) (grp d es))))
theorem IsTrie.nil (w:World) (lo f:Nat):IsTrie w lo f (.pointer none) []:=by
 cases f with
 | zero=>exact⟨rfl,rfl⟩
 | succ f=>exact .inl ⟨rfl,rfl⟩
theorem IsTrie.kept {w w':World} {lo:Nat} (h:∀ k,lo≤k→k<w.heap.size→w'.heap[k]? = w.heap[k]?):∀ (f:Nat) (p:Value) (es:List PairL),IsTrie w lo f p es→IsTrie w' lo f p es
 | 0,p,es,ht=>ht
 | f + 1, p, es, ht => by
   rcases ht with ht | ⟨b,hb,rfl,ht⟩
   · exact .inl ht
   · refine .inr ⟨b,hb,rfl,?_⟩
     rcases ht with ⟨e,he,h1⟩ | ⟨h2,hc,g,q,hg,h1,h3,h4⟩ | ⟨h2,hc,g,qs,hg,h1,h3,h5,h4⟩
     · exact .inl ⟨e,he,(h b hb (lt_of_block h1)).trans h1⟩
     · exact .inr (.inl ⟨h2,hc,g,q,hg,(h b hb (lt_of_block h1)).trans h1,(h g hg (lt_of_block h3)).trans h3,IsTrie.kept h f q _ h4⟩)
     · exact .inr (.inr ⟨h2,hc,g,qs,hg,(h b hb (lt_of_block h1)).trans h1,(h g hg (lt_of_block h3)).trans h3,h5,fun d hd=>IsTrie.kept h f _ _ (h4 d hd)⟩)
theorem IsTrie.mono {w:World} {lo lo':Nat} (h:lo'≤lo):∀ (f:Nat) (p:Value) (es:List PairL),IsTrie w lo f p es→IsTrie w lo' f p es
 | 0,p,es,ht=>ht
 | f + 1, p, es, ht => by
   rcases ht with ht | ⟨b,hb,rfl,ht⟩
   · exact .inl ht
   · refine .inr ⟨b,by omega,rfl,?_⟩
     rcases ht with ⟨e,he,h1⟩ | ⟨h2,hc,g,q,hg,h1,h3,h4⟩ | ⟨h2,hc,g,qs,hg,h1,h3,h5,h4⟩
     · exact .inl ⟨e,he,h1⟩
     · exact .inr (.inl ⟨h2,hc,g,q,by omega,h1,h3,IsTrie.mono h f q _ h4⟩)
     · exact .inr (.inr ⟨h2,hc,g,qs,by omega,h1,h3,h5,fun d hd=>IsTrie.mono h f _ _ (h4 d hd)⟩)
theorem IsTrie.later {w w':World} {lo f:Nat} {p:Value} {es:List PairL} (ht:IsTrie w lo f p es) (hb:Below w.heap.size w w'):IsTrie w' lo f p es:=IsTrie.kept (fun k _ hk=>hb.block k hk) f p es ht
structure Env (w:World) (bp bl bg gp cp gl off cl:Nat) (ps:List PairL):Prop where
 paths:w.heap[bp]? = some (.cells #[.slice (some ⟨gp,0,none⟩) ps.length cp] 76 (0,0))
 pairs:w.heap[bl]? = some (.cells #[.slice (some ⟨gl,off,none⟩) ps.length cl] 24 (0,0))
 self:w.heap[bg]? = some (.cells #[.func (.func 50) #[] #[.pointer (some ⟨bp,0,none⟩),.pointer (some ⟨bl,0,none⟩),.pointer (some ⟨bg,0,none⟩)]] 92 (0,0))
 path:∀ j (h:j<ps.length),w.cell? ⟨gp,j,none⟩=some (.string ⟨(nibs ps[j].1).toArray⟩)
 pair:∀ j (h:j<ps.length),w.cell? ⟨gl,off+j*2+1,none⟩=some (.string ⟨ps[j].2.toArray⟩)
theorem Env.later {w w':World} {bp bl bg gp cp gl off cl:Nat} {ps:List PairL} (h:Env w bp bl bg gp cp gl off cl ps) (hb:Below w.heap.size w w'):Env w' bp bl bg gp cp gl off cl ps :=
 ⟨(hb.block bp (lt_of_block h.paths)).trans h.paths, (hb.block bl (lt_of_block h.pairs)).trans h.pairs, (hb.block bg (lt_of_block h.self)).trans h.self,
  fun j hj=>(hb.cell (p:=⟨gp,j,none⟩) (World.block_lt_of_cell? w _ (h.path j hj))).trans (h.path j hj),
  fun j hj=>(hb.cell (p:=⟨gl,off+j*2+1,none⟩) (World.block_lt_of_cell? w _ (h.pair j hj))).trans (h.pair j hj)⟩
def piece (ps:List PairL) (i e deep:Nat):List PairL:=cutE deep (subE (esOf ps) i e)
def GrownAt (f bp bl bg gp cp gl off cl:Nat) (ps:List PairL):Prop:=∀ (i e deep:Nat) (w:World),i<e→e≤ps.length→(∀ k (hk:k<ps.length),i≤k→k<e→deep≤(nibs ps[k].1).length)→RiseE (piece ps i e deep)→Fits f (piece ps i e deep)→Env w bp bl bg gp cp gl off cl ps →
 Calls Tryz.prog 50 #[.int .i64 (i:Int),.int .i64 (e:Int),.int .i64 (deep:Int),.pointer (some ⟨bp,0,none⟩),.pointer (some ⟨bl,0,none⟩),.pointer (some ⟨bg,0,none⟩)] w fun r w'=>∃ b:Nat,r=.returned (.pointer (some ⟨b,0,none⟩))∧IsTrie w' w.heap.size f (.pointer (some ⟨b,0,none⟩)) (piece ps i e deep)∧Below w.heap.size w w'
theorem one_cell {w:World} {b:Nat} {u:Value} {t:TypeId} (h:w.heap[b]? = some (.cells #[u] t (0,0))):w.cell? ⟨b,0,none⟩=some u∧∀ j,w.frozen? ⟨b,j,none⟩=false:=by
 refine⟨?_,fun j=>frozen_of_row w b j _ t h⟩
 simp only[World.cell?,h];rfl
theorem piece_length (ps:List PairL) (i e deep:Nat) (he:e≤ps.length):(piece ps i e deep).length=e - i:=by simp[piece,cutE,subE,esOf];omega
theorem piece_at (ps:List PairL) (i e deep k:Nat) (hk:k<(piece ps i e deep).length) (he:e≤ps.length) (hi:i+k<ps.length):(piece ps i e deep)[k]=((nibs ps[i+k].1).drop deep,ps[i+k].2):=by
 simp[piece,cutE,subE,esOf]
set_option maxRecDepth 100000 in
set_option maxHeartbeats 2000000 in
theorem grown_leaf (f bp bl bg gp cp gl off cl:Nat) (ps:List PairL) (i deep:Nat) (w:World) (hi:i<ps.length) (hl:ps.length≤60) (hd:deep≤(nibs ps[i].1).length) (hk:(nibs ps[i].1).length≤24) (hE:Env w bp bl bg gp cp gl off cl ps) :
 Calls Tryz.prog 50 #[.int .i64 (i:Int),.int .i64 ((i+1:Nat):Int),.int .i64 (deep:Int),.pointer (some ⟨bp,0,none⟩),.pointer (some ⟨bl,0,none⟩),.pointer (some ⟨bg,0,none⟩)] w fun r w'=>∃ b:Nat,r=.returned (.pointer (some ⟨b,0,none⟩))∧w'.heap[b]? = some (leafB ((nibs ps[i].1).drop deep,ps[i].2))∧w.heap.size≤b∧Below w.heap.size w w':=by
 have c1:=(one_cell hE.paths).1
 have c2:=(one_cell hE.pairs).1
 have c3:=hE.path i hi
 have c4:=hE.pair i hi
 obtain⟨p,hp⟩:∃ p,p=nibs ps[i].1:=⟨_,rfl⟩
 obtain⟨v,hv⟩:∃ v,v=ps[i].2:=⟨_,rfl⟩
 rw[←hp] at c3 hd hk ⊢
 rw[←hv] at c4 ⊢
 have hex:=ext_from p deep hd
 obtain⟨y,hy⟩:∃ y,y=p.drop deep:=⟨_,rfl⟩
 rw[←hy] at hex ⊢
 have i0:(0:Int)≤(i:Int):=by omega
 have i1:(i:Int)<(ps.length:Int):=by omega
 have i2:((i+1:Nat):Int) - 1=(i:Int):=by omega
 have i2':(i:Int)+1 - 1=(i:Int):=by omega
 have i3:IntKind.i64.wrap (i:Int)=(i:Int):=i64_wrap_small _ (by omega) (by omega)
 have i4:i<ps.length:=hi
 have hd':(deep:Int)≤(p.length:Int):=by omega
 clear hE hp hv hy
 go_enter Tryz.func50,Tryz.ntmps50
 go_wp2
 go_quiet (fail)
 go_wp2
 go_ret
 exact⟨_,rfl,heap_alloc_new _ _,Nat.le_refl _,(below_dk (Below.refl _ _)).alloc (Nat.le_refl _) _⟩
set_option maxRecDepth 100000 in
set_option maxHeartbeats 4000000 in
theorem grown_long (f bp bl bg gp cp gl off cl:Nat) (ps:List PairL) (IH:GrownAt f bp bl bg gp cp gl off cl ps) (i e deep:Nat) (w:World) (hie:i+2≤e) (he:e≤ps.length) (hl:ps.length≤60) (hd:∀ k (hk:k<ps.length),i≤k→k<e→deep≤(nibs ps[k].1).length) (hk24:∀ k (hk:k<ps.length),(nibs ps[k].1).length≤24) (hr:RiseE (piece ps i e deep)) (hf:Fits (f+1) (piece ps i e deep)) (hc:0<commonL (piece ps i e deep)) (hE:Env w bp bl bg gp cp gl off cl ps) :
 Calls Tryz.prog 50 #[.int .i64 (i:Int),.int .i64 (e:Int),.int .i64 (deep:Int),.pointer (some ⟨bp,0,none⟩),.pointer (some ⟨bl,0,none⟩),.pointer (some ⟨bg,0,none⟩)] w fun r w'=>∃ b g q,r=.returned (.pointer (some ⟨b,0,none⟩))∧w.heap.size≤b∧w.heap.size≤g∧w'.heap[b]? = some (longB ((headP (piece ps i e deep)).take (commonL (piece ps i e deep))) g)∧w'.heap[g]? = some (.cells #[q] 70 (0,0))∧IsTrie w' w.heap.size f q (cutE (commonL (piece ps i e deep)) (piece ps i e deep))∧Below w.heap.size w w':=by
 have hpl:=piece_length ps i e deep he
 have hi:i<ps.length:=by omega
 have hz:e - 1<ps.length:=by omega
 have e0:=piece_at ps i e deep 0 (by omega) he (by omega)
 have e1:=piece_at ps i e deep ((piece ps i e deep).length - 1) (by omega) he (by omega)
 have hcm:=common_ends (piece ps i e deep) (by omega) hr
 have hh:headP (piece ps i e deep)=(nibs ps[i].1).drop deep:=by
  have:∀ (es:List PairL) (h:0<es.length),headP es=es[0].1:=fun es h=>by cases es with | nil=>simp at h | cons x xs=>rfl
  rw[this _ (by omega),e0];rfl
 have hlast:(piece ps i e deep)[(piece ps i e deep).length - 1]'(by omega)=((nibs ps[e - 1].1).drop deep,ps[e - 1].2):=by
  rw[e1]
  have:i+((piece ps i e deep).length - 1)=e - 1:=by omega
  simp only[this]
 rw[e0,hlast] at hcm
 simp only[Nat.add_zero] at hcm
 have hdi:=hd i hi (Nat.le_refl _) (by omega)
 have hde:=hd (e - 1) hz (by omega) (by omega)
 have hki:=hk24 i hi
 have hke:=hk24 (e - 1) hz
 have c1:=(one_cell hE.paths).1
 have c2:=(one_cell hE.self).1
 have c3:=hE.path i hi
 have c4:=hE.path (e - 1) hz
 have hcl:=commonL_le (piece ps i e deep)
 have hdn:∀ k (hk:k<ps.length),i≤k→k<e→deep+commonL (piece ps i e deep)≤(nibs ps[k].1).length:=fun k hk h1 h2=>by
  have hx:=piece_at ps i e deep (k - i) (by omega) he (by omega)
  have hy:=hcl _ (List.getElem_mem (show k - i<(piece ps i e deep).length by omega))
  rw[hx] at hy
  simp only[List.length_drop,show i+(k - i)=k by omega] at hy
  have:=hd k hk h1 h2
  omega
 have hcc:∀ n,piece ps i e (deep+n)=cutE n (piece ps i e deep):=fun n=>by simp[piece,cutE]
 have HIH:=fun W (hW:Below w.heap.size w W)=>IH i e (deep+commonL (piece ps i e deep)) W (by omega) he hdn (by rw[hcc];exact rise_cut hr (Nat.le_refl _)) (by rw[hcc];exact fits_cut hf hc) (hE.later hW)
 obtain⟨es,hes⟩:∃ es,es=piece ps i e deep:=⟨_,rfl⟩
 obtain⟨n,hn⟩:∃ n,n=commonL es:=⟨_,rfl⟩
 have hnl:n≤((nibs ps[i].1).drop deep).length:=by rw[hn,hes,hcm];exact lcp_le_left _ _
 rw[←hes] at hcm hc hh HIH hcc ⊢
 rw[←hn] at hcm hc HIH ⊢
 rw[hcc n] at HIH
 rw[hh]
 obtain⟨p,hp⟩:∃ p,p=nibs ps[i].1:=⟨_,rfl⟩
 obtain⟨q,hq⟩:∃ q,q=nibs ps[e - 1].1:=⟨_,rfl⟩
 rw[←hp] at c3 hdi hki hcm hnl ⊢
 rw[←hq] at c4 hde hke hcm
 have hex:=ext_from p deep hdi
 have hex2:=ext_from q deep hde
 obtain⟨y,hy⟩:∃ y,y=p.drop deep:=⟨_,rfl⟩
 obtain⟨z,hz9⟩:∃ z,z=q.drop deep:=⟨_,rfl⟩
 have hyl:y.length≤24:=by rw[hy,List.length_drop];omega
 have hzl:z.length≤24:=by rw[hz9,List.length_drop];omega
 rw[←hy] at hex hcm hnl ⊢
 rw[←hz9] at hex2 hcm
 have KA:=fun W=>impl_sameAhead y z W (by omega) (by omega)
 rw[←hcm] at KA
 have hex3:=ext_to y n hnl
 obtain⟨u,hu⟩:∃ u,u=y.take n:=⟨_,rfl⟩
 rw[←hu] at hex3 ⊢
 obtain⟨e1',he1⟩:∃ e1',e1'=e - 1:=⟨_,rfl⟩
 rw[←he1] at c4
 have i0:(0:Int)≤(i:Int):=by omega
 have i1:(i:Int)<(ps.length:Int):=by omega
 have i2:(e:Int) - 1=(e1':Int):=by omega
 have i3:IntKind.i64.wrap (e1':Int)=(e1':Int):=i64_wrap_small _ (by omega) (by omega)
 have i4:i<ps.length:=hi
 have i5:(0:Int)≤(e1':Int):=by omega
 have i6:(e1':Int)<(ps.length:Int):=by omega
 have i7:e1'<ps.length:=by omega
 have i8:((e:Int) - (i:Int) == 1)=false:=by simp only[beq_eq_false_iff_ne,ne_eq];omega
 have i9:(0:Int)<(n:Int):=by omega
 have hd':(deep:Int)≤(p.length:Int):=by omega
 have hd2:(deep:Int)≤(q.length:Int):=by omega
 have hny:(n:Int)≤(y.length:Int):=by omega
 have hdw:IntKind.i64.wrap ((deep:Int)+(n:Int))=(deep:Int)+(n:Int):=i64_wrap_small _ (by omega) (by omega)
 have hbg:=lt_of_block hE.self
 have HK:Hid (∀ W,Below w.heap.size w W→Calls Tryz.prog 50 #[.int .i64 (i:Int),.int .i64 (e:Int),.int .i64 ((deep:Int)+(n:Int)),.pointer (some ⟨bp,0,none⟩),.pointer (some ⟨bl,0,none⟩),.pointer (some ⟨bg,0,none⟩)] W fun r w'=>∃ b:Nat,r=.returned (.pointer (some ⟨b,0,none⟩))∧IsTrie w' W.heap.size f (.pointer (some ⟨b,0,none⟩)) (cutE n es)∧Below W.heap.size W w'):=fun W hW=>by have:=HIH W hW;rw[Int.natCast_add] at this;exact this
 clear hE HIH hcc hp hq hy hz9 hu hh hes hn hcm hcl hdn e0 e1 hlast hr hf IH hd hk24 he1 hpl
 go_enter Tryz.func50,Tryz.ntmps50
 go_wp2
 go_quiet (fail)
 go_wp2_with fail
 refine (KA _).mono ?_
 rintro r w1 ⟨rfl,b1'⟩
 have b1:Below w.heap.size w w1:=⟨b1'.os,b1'.tape,b1'.output,b1'.size,b1'.block⟩
 have c5:=(b1.cell (p:=⟨bg,0,none⟩) hbg).trans c2
 clear KA b1' c1 c2 c3 c4
 go_wp2_with fail
 have SX:Hid (w1.cell? ⟨bg,0,none⟩=some (.func (.func 50) #[] #[.pointer (some ⟨bp,0,none⟩),.pointer (some ⟨bl,0,none⟩),.pointer (some ⟨bg,0,none⟩)])):=c5
 have HK1:=HK.out w1.drew ⟨b1.os,b1.tape,b1.output,b1.size,b1.block⟩
 have hbg1:bg<w1.heap.size:=Nat.lt_of_lt_of_le hbg b1.size
 go_region_held3 (fun w'=>w'.cell? ⟨bg,0,none⟩=some (.func (.func 50) #[] #[.pointer (some ⟨bp,0,none⟩),.pointer (some ⟨bl,0,none⟩),.pointer (some ⟨bg,0,none⟩)]))
  (first | exact S2b.out | exact S2a.out | exact S2.out | exact SX.out)
  ((go_at_call 50
    with_reducible refine HK1.mono ?_
    rintro r w2 ⟨b2,rfl,ht2,bb2'⟩
    have bb2:Below w1.heap.size w1 w2:=below_undrew bb2'
    have B2:Hid (Below w.heap.size w w2):=b1.trans (bb2.mono b1.size)
    have T2:Hid (IsTrie w2 w.heap.size f (.pointer (some ⟨b2,0,none⟩)) (cutE n es)):=IsTrie.mono b1.size _ _ _ ht2
    have S2:Hid (w2.cell? ⟨bg,0,none⟩=some (.func (.func 50) #[] #[.pointer (some ⟨bp,0,none⟩),.pointer (some ⟨bl,0,none⟩),.pointer (some ⟨bg,0,none⟩)])):=(bb2.cell (p:=⟨bg,0,none⟩) hbg1).trans SX.out
    have C2a:Hid (Below w2.heap.size w2 (w2.alloc (.cells #[.pointer (some ⟨b2,0,none⟩)] 70))):=(Below.refl _ _).alloc (Nat.le_refl _) _
    have C2b:Hid (Below w2.heap.size w2 ((w2.alloc (.cells #[.pointer (some ⟨b2,0,none⟩)] 70)).alloc (.cells #[.int .i64 2,.string ⟨u.toArray⟩,.slice (some ⟨w2.heap.size,0,none⟩) 1 1,.string ⟨#[]⟩] 88))):=C2a.out.alloc (by simp) _
    have hbg2:bg<w2.heap.size:=Nat.lt_of_lt_of_le hbg1 bb2.size
    have S2a:Hid ((w2.alloc (.cells #[.pointer (some ⟨b2,0,none⟩)] 70)).cell? ⟨bg,0,none⟩=some (.func (.func 50) #[] #[.pointer (some ⟨bp,0,none⟩),.pointer (some ⟨bl,0,none⟩),.pointer (some ⟨bg,0,none⟩)])):=(C2a.out.cell (p:=⟨bg,0,none⟩) hbg2).trans S2.out
    have S2b:Hid (((w2.alloc (.cells #[.pointer (some ⟨b2,0,none⟩)] 70)).alloc (.cells #[.int .i64 2,.string ⟨u.toArray⟩,.slice (some ⟨w2.heap.size,0,none⟩) 1 1,.string ⟨#[]⟩] 88)).cell? ⟨bg,0,none⟩=some (.func (.func 50) #[] #[.pointer (some ⟨bp,0,none⟩),.pointer (some ⟨bl,0,none⟩),.pointer (some ⟨bg,0,none⟩)])):=(C2b.out.cell (p:=⟨bg,0,none⟩) hbg2).trans S2.out
    clear ht2 bb2 bb2'))
 all_goals
  have N1:Hid (((w2.alloc (.cells #[.pointer (some ⟨b2,0,none⟩)] 70)).alloc (.cells #[.int .i64 2,.string ⟨u.toArray⟩,.slice (some ⟨w2.heap.size,0,none⟩) 1 1,.string ⟨#[]⟩] 88)).heap[w2.heap.size]? = some (.cells #[.pointer (some ⟨b2,0,none⟩)] 70 (0,0))):=by
   rw[Hid,Below.heap_alloc _ _ _ (by simp)];exact heap_alloc_new _ _
  have N2:Hid (((w2.alloc (.cells #[.pointer (some ⟨b2,0,none⟩)] 70)).alloc (.cells #[.int .i64 2,.string ⟨u.toArray⟩,.slice (some ⟨w2.heap.size,0,none⟩) 1 1,.string ⟨#[]⟩] 88)).heap[w2.heap.size+1]? = some (longB u w2.heap.size)):=by
   have:=heap_alloc_new (w2.alloc (.cells #[.pointer (some ⟨b2,0,none⟩)] 70)) (.cells #[.int .i64 2,.string ⟨u.toArray⟩,.slice (some ⟨w2.heap.size,0,none⟩) 1 1,.string ⟨#[]⟩] 88)
   rw[Hid];simpa [longB] using this
  have T3:Hid (IsTrie ((w2.alloc (.cells #[.pointer (some ⟨b2,0,none⟩)] 70)).alloc (.cells #[.int .i64 2,.string ⟨u.toArray⟩,.slice (some ⟨w2.heap.size,0,none⟩) 1 1,.string ⟨#[]⟩] 88)) w.heap.size f (.pointer (some ⟨b2,0,none⟩)) (cutE n es)):=T2.out.later C2b.out
  have B3:Hid (Below w.heap.size w ((w2.alloc (.cells #[.pointer (some ⟨b2,0,none⟩)] 70)).alloc (.cells #[.int .i64 2,.string ⟨u.toArray⟩,.slice (some ⟨w2.heap.size,0,none⟩) 1 1,.string ⟨#[]⟩] 88))):=B2.out.trans (C2b.out.mono B2.out.size)
  have s2:=B2.out.size
  go_wp2
  go_ret
  exact⟨w2.heap.size+1,w2.heap.size,_,rfl,by omega,s2,N2.out,N1.out,T3.out,B3.out⟩
end Go.Proofs.YtcoahmldmodmlaaGreatDoor
