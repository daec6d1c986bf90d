/-
 Texts that are laid as one: Trie, TrieB, TrieT, TrieO.
-/
import Derived.Test.YtppljdnbhoeeoaaGreatDoorSBuilds
import Derived.Test.YtppljdnbhoeeoaaGreatDoorIReads
import Derived.Deep.RegionLawGrows
import Derived.Laws.EntriesVeiled
namespace Go.Proofs.YtppljdnbhoeeoaaGreatDoor
open Go.RowKit
set_option linter.unusedVariables false
set_option maxHeartbeats 4000000
set_option maxRecDepth 100000
def zrx (e:za):Obj:=.cells #[.int .i64 1,.string ⟨e.1.toArray⟩,.slice none 0 0,.string ⟨e.2.toArray⟩] 172 (0,0)
def zio (p:List UInt8) (g:Nat):Obj:=.cells #[.int .i64 2,.string ⟨p.toArray⟩,.slice (some ⟨g,0,none⟩) 1 1,.string ⟨#[]⟩] 172 (0,0)
def zdn (v:List UInt8) (g:Nat):Obj:=.cells #[.int .i64 3,.string ⟨#[]⟩,.slice (some ⟨g,0,none⟩) 16 16,.string ⟨v.toArray⟩] 172 (0,0)
def IsTrie (w : World) (lo : Nat) : Nat → Value → List za → Prop
 | 0,p,es=>es=[]∧p=.pointer none
 | f + 1, p, es =>
   (es=[]∧p=.pointer none) ∨
   (∃ b, lo ≤ b ∧ p = .pointer (some ⟨b, 0, none⟩) ∧
    ((∃ e, es = [e] ∧ w.heap[b]? = some (zrx e)) ∨
     (2≤es.length∧0<zo es∧∃ g q,lo≤g∧w.heap[b]? = some (zio ((zb2 es).take (zo es)) g)∧w.heap[g]? = some (.cells #[q] 145 (0,0))∧IsTrie w lo f q (cutE (zo es) es)) ∨
     (2≤es.length∧¬ 0<zo es∧∃ g qs,lo≤g∧w.heap[b]? = some (zdn (endV es) g)∧w.heap[g]? = some (.cells qs 145 (0,0))∧qs.size=16∧∀ d,d<16→IsTrie w lo f (qs.getD d undef) (grp d es))))
theorem IsTrie.nil (w:World) (lo f:Nat):IsTrie w lo f (.pointer none) []:=by
 cases f with
 | zero=>exact⟨rfl,rfl⟩
 | succ f=>exact .inl ⟨rfl,rfl⟩
theorem IsTrie.kept {w w':World} {lo:Nat} (h:∀ k,lo≤k→k<w.heap.size→w'.heap[k]? = w.heap[k]?):∀ (f:Nat) (p:Value) (es:List za),IsTrie w lo f p es→IsTrie w' lo f p es
 | 0,p,es,ht=>ht
 | f + 1, p, es, ht => by
   rcases ht with ht | ⟨b,hb,rfl,ht⟩
   · exact .inl ht
   · refine .inr ⟨b,hb,rfl,?_⟩
     rcases ht with ⟨e,he,h1⟩ | ⟨h2,hc,g,q,hg,h1,h3,h4⟩ | ⟨h2,hc,g,qs,hg,h1,h3,h5,h4⟩
     · exact .inl ⟨e,he,(h b hb (lt_of_block h1)).trans h1⟩
     · exact .inr (.inl ⟨h2,hc,g,q,hg,(h b hb (lt_of_block h1)).trans h1,(h g hg (lt_of_block h3)).trans h3,IsTrie.kept h f q _ h4⟩)
     · exact .inr (.inr ⟨h2,hc,g,qs,hg,(h b hb (lt_of_block h1)).trans h1,(h g hg (lt_of_block h3)).trans h3,h5,fun d hd=>IsTrie.kept h f _ _ (h4 d hd)⟩)
theorem IsTrie.mono {w:World} {lo lo':Nat} (h:lo'≤lo):∀ (f:Nat) (p:Value) (es:List za),IsTrie w lo f p es→IsTrie w lo' f p es
 | 0,p,es,ht=>ht
 | f + 1, p, es, ht => by
   rcases ht with ht | ⟨b,hb,rfl,ht⟩
   · exact .inl ht
   · refine .inr ⟨b,by omega,rfl,?_⟩
     rcases ht with ⟨e,he,h1⟩ | ⟨h2,hc,g,q,hg,h1,h3,h4⟩ | ⟨h2,hc,g,qs,hg,h1,h3,h5,h4⟩
     · exact .inl ⟨e,he,h1⟩
     · exact .inr (.inl ⟨h2,hc,g,q,by omega,h1,h3,IsTrie.mono h f q _ h4⟩)
     · exact .inr (.inr ⟨h2,hc,g,qs,by omega,h1,h3,h5,fun d hd=>IsTrie.mono h f _ _ (h4 d hd)⟩)
theorem IsTrie.later {w w':World} {lo f:Nat} {p:Value} {es:List za} (ht:IsTrie w lo f p es) (hb:Below w.heap.size w w'):IsTrie w' lo f p es:=IsTrie.kept (fun k _ hk=>hb.block k hk) f p es ht
structure Env (w:World) (bp bl bg gp cp gl off cl:Nat) (ps:List za):Prop where
 paths:w.heap[bp]? = some (.cells #[.slice (some ⟨gp,0,none⟩) ps.length cp] 138 (0,0))
 pairs:w.heap[bl]? = some (.cells #[.slice (some ⟨gl,off,none⟩) ps.length cl] 54 (0,0))
 self:w.heap[bg]? = some (.cells #[.func (.func 111) #[] #[.pointer (some ⟨bp,0,none⟩),.pointer (some ⟨bl,0,none⟩),.pointer (some ⟨bg,0,none⟩)]] 174 (0,0))
 path:∀ j (h:j<ps.length),w.cell? ⟨gp,j,none⟩=some (.string ⟨(nibs ps[j].1).toArray⟩)
 pair:∀ j (h:j<ps.length),w.cell? ⟨gl,off+j*2+1,none⟩=some (.string ⟨ps[j].2.toArray⟩)
theorem Env.later {w w':World} {bp bl bg gp cp gl off cl:Nat} {ps:List za} (h:Env w bp bl bg gp cp gl off cl ps) (hb:Below w.heap.size w w'):Env w' bp bl bg gp cp gl off cl ps :=
 ⟨(hb.block bp (lt_of_block h.paths)).trans h.paths, (hb.block bl (lt_of_block h.pairs)).trans h.pairs, (hb.block bg (lt_of_block h.self)).trans h.self,
  fun j hj=>(hb.cell (p:=⟨gp,j,none⟩) (World.block_lt_of_cell? w _ (h.path j hj))).trans (h.path j hj),
  fun j hj=>(hb.cell (p:=⟨gl,off+j*2+1,none⟩) (World.block_lt_of_cell? w _ (h.pair j hj))).trans (h.pair j hj)⟩
def piece (ps:List za) (i e deep:Nat):List za:=cutE deep (subE (esOf ps) i e)
def zls (f bp bl bg gp cp gl off cl:Nat) (ps:List za):Prop:=∀ (i e deep:Nat) (w:World),i<e→e≤ps.length→(∀ k (hk:k<ps.length),i≤k→k<e→deep≤(nibs ps[k].1).length)→zbx (piece ps i e deep)→Fits f (piece ps i e deep)→Env w bp bl bg gp cp gl off cl ps →
 Calls Tryz.prog 111 #[.int .i64 (i:Int),.int .i64 (e:Int),.int .i64 (deep:Int),.pointer (some ⟨bp,0,none⟩),.pointer (some ⟨bl,0,none⟩),.pointer (some ⟨bg,0,none⟩)] w fun r w'=>∃ b:Nat,r=.returned (.pointer (some ⟨b,0,none⟩))∧IsTrie w' w.heap.size f (.pointer (some ⟨b,0,none⟩)) (piece ps i e deep)∧Below w.heap.size w w'
theorem one_cell {w:World} {b:Nat} {u:Value} {t:TypeId} (h:w.heap[b]? = some (.cells #[u] t (0,0))):w.cell? ⟨b,0,none⟩=some u∧∀ j,w.frozen? ⟨b,j,none⟩=false:=by
 refine⟨?_,fun j=>frozen_of_row w b j _ t h⟩
 simp only[World.cell?,h];rfl
theorem zip (ps:List za) (i e deep:Nat) (he:e≤ps.length):(piece ps i e deep).length=e - i:=by simp[piece,cutE,subE,esOf];omega
theorem piece_at (ps:List za) (i e deep k:Nat) (hk:k<(piece ps i e deep).length) (he:e≤ps.length) (hi:i+k<ps.length):(piece ps i e deep)[k]=((nibs ps[i+k].1).drop deep,ps[i+k].2):=by
 simp[piece,cutE,subE,esOf]
theorem za3s (f bp bl bg gp cp gl off cl:Nat) (ps:List za) (i deep:Nat) (w:World) (hi:i<ps.length) (hl:ps.length≤60) (hd:deep≤(nibs ps[i].1).length) (hk:(nibs ps[i].1).length≤24) (hE:Env w bp bl bg gp cp gl off cl ps) :
 Calls Tryz.prog 111 #[.int .i64 (i:Int),.int .i64 ((i+1:Nat):Int),.int .i64 (deep:Int),.pointer (some ⟨bp,0,none⟩),.pointer (some ⟨bl,0,none⟩),.pointer (some ⟨bg,0,none⟩)] w fun r w'=>∃ b:Nat,r=.returned (.pointer (some ⟨b,0,none⟩))∧w'.heap[b]? = some (zrx ((nibs ps[i].1).drop deep,ps[i].2))∧w.heap.size≤b∧Below w.heap.size w w':=by
 have c1:=(one_cell hE.paths).1
 have c2:=(one_cell hE.pairs).1
 have c3:=hE.path i hi
 have c4:=hE.pair i hi
 obtain⟨p,hp⟩:∃ p,p=nibs ps[i].1:=⟨_,rfl⟩
 obtain⟨v,hv⟩:∃ v,v=ps[i].2:=⟨_,rfl⟩
 rw[←hp] at c3 hd hk ⊢
 rw[←hv] at c4 ⊢
 have hex:=zbg p deep hd
 obtain⟨y,hy⟩:∃ y,y=p.drop deep:=⟨_,rfl⟩
 rw[←hy] at hex ⊢
 have i0:(0:Int)≤(i:Int):=by omega
 have i1:(i:Int)<(ps.length:Int):=by omega
 have i2:((i+1:Nat):Int) - 1=(i:Int):=by omega
 have i2':(i:Int)+1 - 1=(i:Int):=by omega
 have i3:IntKind.i64.wrap (i:Int)=(i:Int):=zag _ (by omega) (by omega)
 have i4:i<ps.length:=hi
 have hd':(deep:Int)≤(p.length:Int):=by omega
 clear hE hp hv hy
 go_enter Tryz.func111,Tryz.ntmps111
 go_wp2
 go_quiet (fail)
 go_wp2
 go_ret
 exact⟨_,rfl,heap_alloc_new _ _,Nat.le_refl _,(zbj (Below.refl _ _)).alloc (Nat.le_refl _) _⟩
theorem za3t (f bp bl bg gp cp gl off cl:Nat) (ps:List za) (IH:zls f bp bl bg gp cp gl off cl ps) (i e deep:Nat) (w:World) (hie:i+2≤e) (he:e≤ps.length) (hl:ps.length≤60) (hd:∀ k (hk:k<ps.length),i≤k→k<e→deep≤(nibs ps[k].1).length) (hk24:∀ k (hk:k<ps.length),(nibs ps[k].1).length≤24) (hr:zbx (piece ps i e deep)) (hf:Fits (f+1) (piece ps i e deep)) (hc:0<zo (piece ps i e deep)) (hE:Env w bp bl bg gp cp gl off cl ps) :
 Calls Tryz.prog 111 #[.int .i64 (i:Int),.int .i64 (e:Int),.int .i64 (deep:Int),.pointer (some ⟨bp,0,none⟩),.pointer (some ⟨bl,0,none⟩),.pointer (some ⟨bg,0,none⟩)] w fun r w'=>∃ b g q,r=.returned (.pointer (some ⟨b,0,none⟩))∧w.heap.size≤b∧w.heap.size≤g∧w'.heap[b]? = some (zio ((zb2 (piece ps i e deep)).take (zo (piece ps i e deep))) g)∧w'.heap[g]? = some (.cells #[q] 145 (0,0))∧IsTrie w' w.heap.size f q (cutE (zo (piece ps i e deep)) (piece ps i e deep))∧Below w.heap.size w w':=by
 have hpl:=zip ps i e deep he
 have hi:i<ps.length:=by omega
 have hz:e - 1<ps.length:=by omega
 have e0:=piece_at ps i e deep 0 (by omega) he (by omega)
 have e1:=piece_at ps i e deep ((piece ps i e deep).length - 1) (by omega) he (by omega)
 have hcm:=zs7 (piece ps i e deep) (by omega) hr
 have hh:zb2 (piece ps i e deep)=(nibs ps[i].1).drop deep:=by
  have:∀ (es:List za) (h:0<es.length),zb2 es=es[0].1:=fun es h=>by cases es with | nil=>simp at h | cons x xs=>rfl
  rw[this _ (by omega),e0];rfl
 have hlast:(piece ps i e deep)[(piece ps i e deep).length - 1]'(by omega)=((nibs ps[e - 1].1).drop deep,ps[e - 1].2):=by
  rw[e1]
  have:i+((piece ps i e deep).length - 1)=e - 1:=by omega
  simp only[this]
 rw[e0,hlast] at hcm
 simp only[Nat.add_zero] at hcm
 have hdi:=hd i hi (Nat.le_refl _) (by omega)
 have hde:=hd (e - 1) hz (by omega) (by omega)
 have hki:=hk24 i hi
 have hke:=hk24 (e - 1) hz
 have c1:=(one_cell hE.paths).1
 have c2:=(one_cell hE.self).1
 have c3:=hE.path i hi
 have c4:=hE.path (e - 1) hz
 have hcl:=zgv (piece ps i e deep)
 have hdn:∀ k (hk:k<ps.length),i≤k→k<e→deep+zo (piece ps i e deep)≤(nibs ps[k].1).length:=fun k hk h1 h2=>by
  have hx:=piece_at ps i e deep (k - i) (by omega) he (by omega)
  have hy:=hcl _ (List.getElem_mem (show k - i<(piece ps i e deep).length by omega))
  rw[hx] at hy
  simp only[List.length_drop,show i+(k - i)=k by omega] at hy
  have:=hd k hk h1 h2
  omega
 have hcc:∀ n,piece ps i e (deep+n)=cutE n (piece ps i e deep):=fun n=>by simp[piece,cutE]
 have HIH:=fun W (hW:Below w.heap.size w W)=>IH i e (deep+zo (piece ps i e deep)) W (by omega) he hdn (by rw[hcc];exact za4b hr (Nat.le_refl _)) (by rw[hcc];exact zgw hf hc) (hE.later hW)
 obtain⟨es,hes⟩:∃ es,es=piece ps i e deep:=⟨_,rfl⟩
 obtain⟨n,hn⟩:∃ n,n=zo es:=⟨_,rfl⟩
 have hnl:n≤((nibs ps[i].1).drop deep).length:=by rw[hn,hes,hcm];exact zft _ _
 rw[←hes] at hcm hc hh HIH hcc ⊢
 rw[←hn] at hcm hc HIH ⊢
 rw[hcc n] at HIH
 rw[hh]
 obtain⟨p,hp⟩:∃ p,p=nibs ps[i].1:=⟨_,rfl⟩
 obtain⟨q,hq⟩:∃ q,q=nibs ps[e - 1].1:=⟨_,rfl⟩
 rw[←hp] at c3 hdi hki hcm hnl ⊢
 rw[←hq] at c4 hde hke hcm
 have hex:=zbg p deep hdi
 have hex2:=zbg q deep hde
 obtain⟨y,hy⟩:∃ y,y=p.drop deep:=⟨_,rfl⟩
 obtain⟨z,hz9⟩:∃ z,z=q.drop deep:=⟨_,rfl⟩
 have hyl:y.length≤24:=by rw[hy,List.length_drop];omega
 have hzl:z.length≤24:=by rw[hz9,List.length_drop];omega
 rw[←hy] at hex hcm hnl ⊢
 rw[←hz9] at hex2 hcm
 have KA:=fun W=>zs4 y z W (by omega) (by omega)
 rw[←hcm] at KA
 have hex3:=zdf y n hnl
 obtain⟨u,hu⟩:∃ u,u=y.take n:=⟨_,rfl⟩
 rw[←hu] at hex3 ⊢
 obtain⟨e1',he1⟩:∃ e1',e1'=e - 1:=⟨_,rfl⟩
 rw[←he1] at c4
 have i0:(0:Int)≤(i:Int):=by omega
 have i1:(i:Int)<(ps.length:Int):=by omega
 have i2:(e:Int) - 1=(e1':Int):=by omega
 have i3:IntKind.i64.wrap (e1':Int)=(e1':Int):=zag _ (by omega) (by omega)
 have i4:i<ps.length:=hi
 have i5:(0:Int)≤(e1':Int):=by omega
 have i6:(e1':Int)<(ps.length:Int):=by omega
 have i7:e1'<ps.length:=by omega
 have i8:((e:Int) - (i:Int) == 1)=false:=by simp only[beq_eq_false_iff_ne,ne_eq];omega
 have i9:(0:Int)<(n:Int):=by omega
 have hd':(deep:Int)≤(p.length:Int):=by omega
 have hd2:(deep:Int)≤(q.length:Int):=by omega
 have hny:(n:Int)≤(y.length:Int):=by omega
 have hdw:IntKind.i64.wrap ((deep:Int)+(n:Int))=(deep:Int)+(n:Int):=zag _ (by omega) (by omega)
 have hbg:=lt_of_block hE.self
 have HK:Hid (∀ W,Below w.heap.size w W→Calls Tryz.prog 111 #[.int .i64 (i:Int),.int .i64 (e:Int),.int .i64 ((deep:Int)+(n:Int)),.pointer (some ⟨bp,0,none⟩),.pointer (some ⟨bl,0,none⟩),.pointer (some ⟨bg,0,none⟩)] W fun r w'=>∃ b:Nat,r=.returned (.pointer (some ⟨b,0,none⟩))∧IsTrie w' W.heap.size f (.pointer (some ⟨b,0,none⟩)) (cutE n es)∧Below W.heap.size W w'):=fun W hW=>by have:=HIH W hW;rw[Int.natCast_add] at this;exact this
 clear hE HIH hcc hp hq hy hz9 hu hh hes hn hcm hcl hdn e0 e1 hlast hr hf IH hd hk24 he1 hpl
 go_enter Tryz.func111,Tryz.ntmps111
 go_wp2
 go_quiet (fail)
 go_wp2_with fail
 refine (KA _).mono ?_
 rintro r w1 ⟨rfl,b1'⟩
 have b1:Below w.heap.size w w1:=⟨b1'.os,b1'.tape,b1'.output,b1'.size,b1'.block⟩
 have c5:=(b1.cell (p:=⟨bg,0,none⟩) hbg).trans c2
 clear KA b1' c1 c2 c3 c4
 go_wp2_with fail
 have SX:Hid (w1.cell? ⟨bg,0,none⟩=some (.func (.func 111) #[] #[.pointer (some ⟨bp,0,none⟩),.pointer (some ⟨bl,0,none⟩),.pointer (some ⟨bg,0,none⟩)])):=c5
 have HK1:=HK.out w1.drew ⟨b1.os,b1.tape,b1.output,b1.size,b1.block⟩
 have hbg1:bg<w1.heap.size:=Nat.lt_of_lt_of_le hbg b1.size
 go_region_held3 (fun w'=>w'.cell? ⟨bg,0,none⟩=some (.func (.func 111) #[] #[.pointer (some ⟨bp,0,none⟩),.pointer (some ⟨bl,0,none⟩),.pointer (some ⟨bg,0,none⟩)]))
  (first | exact S2b.out | exact S2a.out | exact S2.out | exact SX.out)
  ((go_at_call 111
    with_reducible refine HK1.mono ?_
    rintro r w2 ⟨b2,rfl,ht2,bb2'⟩
    have bb2:Below w1.heap.size w1 w2:=zcp bb2'
    have B2:Hid (Below w.heap.size w w2):=b1.trans (bb2.mono b1.size)
    have T2:Hid (IsTrie w2 w.heap.size f (.pointer (some ⟨b2,0,none⟩)) (cutE n es)):=IsTrie.mono b1.size _ _ _ ht2
    have S2:Hid (w2.cell? ⟨bg,0,none⟩=some (.func (.func 111) #[] #[.pointer (some ⟨bp,0,none⟩),.pointer (some ⟨bl,0,none⟩),.pointer (some ⟨bg,0,none⟩)])):=(bb2.cell (p:=⟨bg,0,none⟩) hbg1).trans SX.out
    have C2a:Hid (Below w2.heap.size w2 (w2.alloc (.cells #[.pointer (some ⟨b2,0,none⟩)] 145))):=(Below.refl _ _).alloc (Nat.le_refl _) _
    have C2b:Hid (Below w2.heap.size w2 ((w2.alloc (.cells #[.pointer (some ⟨b2,0,none⟩)] 145)).alloc (.cells #[.int .i64 2,.string ⟨u.toArray⟩,.slice (some ⟨w2.heap.size,0,none⟩) 1 1,.string ⟨#[]⟩] 172))):=C2a.out.alloc (by simp) _
    have hbg2:bg<w2.heap.size:=Nat.lt_of_lt_of_le hbg1 bb2.size
    have S2a:Hid ((w2.alloc (.cells #[.pointer (some ⟨b2,0,none⟩)] 145)).cell? ⟨bg,0,none⟩=some (.func (.func 111) #[] #[.pointer (some ⟨bp,0,none⟩),.pointer (some ⟨bl,0,none⟩),.pointer (some ⟨bg,0,none⟩)])):=(C2a.out.cell (p:=⟨bg,0,none⟩) hbg2).trans S2.out
    have S2b:Hid (((w2.alloc (.cells #[.pointer (some ⟨b2,0,none⟩)] 145)).alloc (.cells #[.int .i64 2,.string ⟨u.toArray⟩,.slice (some ⟨w2.heap.size,0,none⟩) 1 1,.string ⟨#[]⟩] 172)).cell? ⟨bg,0,none⟩=some (.func (.func 111) #[] #[.pointer (some ⟨bp,0,none⟩),.pointer (some ⟨bl,0,none⟩),.pointer (some ⟨bg,0,none⟩)])):=(C2b.out.cell (p:=⟨bg,0,none⟩) hbg2).trans S2.out
    clear ht2 bb2 bb2'))
 all_goals
  have N1:Hid (((w2.alloc (.cells #[.pointer (some ⟨b2,0,none⟩)] 145)).alloc (.cells #[.int .i64 2,.string ⟨u.toArray⟩,.slice (some ⟨w2.heap.size,0,none⟩) 1 1,.string ⟨#[]⟩] 172)).heap[w2.heap.size]? = some (.cells #[.pointer (some ⟨b2,0,none⟩)] 145 (0,0))):=by
   rw[Hid,Below.heap_alloc _ _ _ (by simp)];exact heap_alloc_new _ _
  have N2:Hid (((w2.alloc (.cells #[.pointer (some ⟨b2,0,none⟩)] 145)).alloc (.cells #[.int .i64 2,.string ⟨u.toArray⟩,.slice (some ⟨w2.heap.size,0,none⟩) 1 1,.string ⟨#[]⟩] 172)).heap[w2.heap.size+1]? = some (zio u w2.heap.size)):=by
   have:=heap_alloc_new (w2.alloc (.cells #[.pointer (some ⟨b2,0,none⟩)] 145)) (.cells #[.int .i64 2,.string ⟨u.toArray⟩,.slice (some ⟨w2.heap.size,0,none⟩) 1 1,.string ⟨#[]⟩] 172)
   rw[Hid];simpa [zio] using this
  have T3:Hid (IsTrie ((w2.alloc (.cells #[.pointer (some ⟨b2,0,none⟩)] 145)).alloc (.cells #[.int .i64 2,.string ⟨u.toArray⟩,.slice (some ⟨w2.heap.size,0,none⟩) 1 1,.string ⟨#[]⟩] 172)) w.heap.size f (.pointer (some ⟨b2,0,none⟩)) (cutE n es)):=T2.out.later C2b.out
  have B3:Hid (Below w.heap.size w ((w2.alloc (.cells #[.pointer (some ⟨b2,0,none⟩)] 145)).alloc (.cells #[.int .i64 2,.string ⟨u.toArray⟩,.slice (some ⟨w2.heap.size,0,none⟩) 1 1,.string ⟨#[]⟩] 172))):=B2.out.trans (C2b.out.mono B2.out.size)
  have s2:=B2.out.size
  go_wp2
  go_ret
  exact⟨w2.heap.size+1,w2.heap.size,_,rfl,by omega,s2,N2.out,N1.out,T3.out,B3.out⟩
theorem za3u:(Tryz.prog.info? 145).map (fun i=>(i.zero,i.size,i.bytes))=some (some (.pointer none),1,8):=by kernel_rfl
theorem za3v (n:Nat):(madeCells (Value.pointer none).cells (n*1)).toList=List.replicate n (.pointer none):=by
 apply List.ext_getElem?
 intro j
 by_cases hj:j<n
 · simp[madeCells,hj,Value.cells,Nat.mod_one]
 · simp[madeCells,hj]
theorem za3w (ps:List za) (i e deep a b:Nat) (hb:b≤e - i):piece ps (i+a) (i+b) (deep+1)=cutE 1 (subE (piece ps i e deep) a b):=by
 have h1:subE (piece ps i e deep) a b=cutE deep (subE (esOf ps) (i+a) (i+b)):=by
  unfold piece subE cutE
  rw[←List.map_drop,←List.map_take,List.drop_take,List.drop_drop,List.take_take]
  congr 2
  omega
 rw[h1,piece]
 simp[cutE]
theorem za57 {w:World} {b:Nat} {u v x y z:Value} {t:TypeId} (h:w.heap[b]? = some (.cells #[u,v,x,y] t (0,0))):(w.setCell ⟨b,3,none⟩ z).heap[b]? = some (.cells #[u,v,x,z] t (0,0)):=by
 have hlt:=lt_of_block h
 have h':w.heap[b]=.cells #[u,v,x,y] t (0,0):=by simpa [Array.getElem?_eq_getElem hlt] using h
 show (w.heap.modify b _)[b]? = _
 rw[Array.getElem?_eq_getElem (by simpa using hlt),Array.getElem_modify_self,h']
 rfl
theorem za3x (w:World) (p:Addr) (v:Value):w.grownBy (w.setCell p v) (some p.block):=by
 have b:=(Below.refl 0 w).setCell (p:=p) (Nat.zero_le _) v
 exact⟨b.os,b.tape,b.output,b.size,fun k hk hne=>Below.heap_setCell _ _ _ _ (fun e=>hne (by rw[e]))⟩
theorem zry {d:Nat} (hd:d<16):(List.replicate 16 (Value.pointer none)).getD d undef=.pointer none:=by
 rw[List.getD_eq_getElem?_getD,List.getElem?_replicate,if_pos hd];rfl
theorem zrz {w:World} {B e g:Nat} {qs:List Value} (h:w.ownsRow B e 1 (.slice (some ⟨g,0,none⟩) 16 16) 16 qs) (hl:qs.length=16):∃ qa:Array Value,w.heap[g]? = some (.cells qa e (0,0))∧qa.size=16∧∀ d,qa.getD d undef=qs.getD d undef:=by
 rcases h.2 with ⟨h',_⟩ | ⟨g',cap,cur,h',_,hb,_,_,hsz,ht⟩
 · cases h'
 · cases h'
   have hc:cur.size=16:=by omega
   refine⟨cur,hb,hc,fun d=>?_⟩
   have e1:cur.toList=qs:=by
    have h9:cur.toList.take (16*1)=qs:=ht
    rw[List.take_of_length_le (by simp[hc])] at h9
    exact h9
   rw[←e1]
   simp[Array.getD_eq_getD_getElem?,List.getD_eq_getElem?_getD]
theorem za3y {es:List za} {n:Nat} (h:zbx es):zbx (es.take n):=List.Pairwise.sublist (List.take_sublist n es) h
theorem za3z {f n:Nat} {es:List za} (h:Fits f es):Fits f (es.take n):=fun e he=>h e (List.mem_of_mem_take he)
theorem za40 {p:List UInt8} {v:List UInt8} {deep:Nat} {x:UInt8} (h:hdE (p.drop deep,v)=some x):∃ hd:deep<p.length,p[deep]=x:=by
 unfold hdE at h
 by_cases hl:deep<p.length
 · refine⟨hl,?_⟩
   rw[List.head?_drop,List.getElem?_eq_getElem hl] at h
   exact Option.some.inj h
 · rw[List.drop_eq_nil_of_le (by omega)] at h
   simp at h
theorem ziq {p:List UInt8} {v:List UInt8} {deep:Nat} (h:p.drop deep≠[]):∃ (hd:deep<p.length),hdE (p.drop deep,v)=some p[deep]:=by
 have hl:deep<p.length:=by
  rcases Nat.lt_or_ge deep p.length with h' | h'
  · exact h'
  · exact absurd (List.drop_eq_nil_of_le h') h
 exact⟨hl,by rw[hdE,List.head?_drop,List.getElem?_eq_getElem hl]⟩
theorem za41 (f bp bl bg gp cp gl off cl:Nat) (ps:List za) (IH:zls f bp bl bg gp cp gl off cl ps) (i e deep:Nat) (w:World) (hie:i+2≤e) (he:e≤ps.length) (hl:ps.length≤60) (hd:∀ k (hk:k<ps.length),i≤k→k<e→deep≤(nibs ps[k].1).length) (hk24:∀ k (hk:k<ps.length),(nibs ps[k].1).length≤24) (hnib:∀ k (hk:k<ps.length),∀ x∈nibs ps[k].1,x.toNat<16) (hr:zbx (piece ps i e deep)) (hf:Fits (f+1) (piece ps i e deep)) (hc:¬ 0<zo (piece ps i e deep)) (hE:Env w bp bl bg gp cp gl off cl ps) :
 Calls Tryz.prog 111 #[.int .i64 (i:Int),.int .i64 (e:Int),.int .i64 (deep:Int),.pointer (some ⟨bp,0,none⟩),.pointer (some ⟨bl,0,none⟩),.pointer (some ⟨bg,0,none⟩)] w fun r w'=>∃ b g qs,r=.returned (.pointer (some ⟨b,0,none⟩))∧w.heap.size≤b∧w.heap.size≤g∧w'.heap[b]? = some (zdn (endV (piece ps i e deep)) g)∧w'.heap[g]? = some (.cells qs 145 (0,0))∧qs.size=16∧(∀ d,d<16→IsTrie w' w.heap.size f (qs.getD d undef) (grp d (piece ps i e deep)))∧Below w.heap.size w w':=by
 obtain⟨j0,hj0,hy0,hy1,hy2⟩:=info_parts za3u
 have hpl:=zip ps i e deep he
 have hi:i<ps.length:=by omega
 have hz:e - 1<ps.length:=by omega
 have e0:=piece_at ps i e deep 0 (by omega) he (by omega)
 have e1:=piece_at ps i e deep ((piece ps i e deep).length - 1) (by omega) he (by omega)
 have hcm:=zs7 (piece ps i e deep) (by omega) hr
 have hlast:(piece ps i e deep)[(piece ps i e deep).length - 1]'(by omega)=((nibs ps[e - 1].1).drop deep,ps[e - 1].2):=by
  rw[e1]
  have:i+((piece ps i e deep).length - 1)=e - 1:=by omega
  simp only[this]
 rw[e0,hlast] at hcm
 simp only[Nat.add_zero] at hcm
 have hc0:zo (piece ps i e deep)=0:=by omega
 rw[hc0] at hcm
 have hdi:=hd i hi (Nat.le_refl _) (by omega)
 have hde:=hd (e - 1) hz (by omega) (by omega)
 have hki:=hk24 i hi
 have hke:=hk24 (e - 1) hz
 have c1:=(one_cell hE.paths).1
 have c3:=hE.path i hi
 have c4:=hE.path (e - 1) hz
 have hend:=za4h hr (by omega)
 rw[e0] at hend
 simp only[Nat.add_zero] at hend
 obtain⟨es,hes⟩:∃ es,es=piece ps i e deep:=⟨_,rfl⟩
 have HAT:Hid (∀ k (hk:k<ps.length),i≤k→k<e→es[k - i]? = some ((nibs ps[k].1).drop deep,ps[k].2)):=fun k hk h1 h2=>by
  rw[hes,List.getElem?_eq_getElem (by omega),piece_at ps i e deep (k - i) (by omega) he (by omega)]
  simp only[show i+(k - i)=k by omega]
 have HSUB:Hid (∀ a b,b≤e - i→piece ps (i+a) (i+b) (deep+1)=cutE 1 (subE es a b)):=fun a b hb=>by rw[hes];exact za3w ps i e deep a b hb
 rw[←hes] at hend hr hf hpl ⊢
 have HR:Hid (zbx es∧Fits (f+1) es):=⟨hr,hf⟩
 have HIH:Hid (∀ a b x W,a<b→b≤es.length→(∀ k (hk:k<es.length),k<a→hdE es[k]≠some x)→(∀ k (hk:k<es.length),a≤k→k<b→hdE es[k]=some x)→Below w.heap.size w W→Calls Tryz.prog 111 #[.int .i64 ((i+a:Nat):Int),.int .i64 ((i+b:Nat):Int),.int .i64 ((deep:Int)+1),.pointer (some ⟨bp,0,none⟩),.pointer (some ⟨bl,0,none⟩),.pointer (some ⟨bg,0,none⟩)] W fun r w'=>∃ b9:Nat,r=.returned (.pointer (some ⟨b9,0,none⟩))∧IsTrie w' W.heap.size f (.pointer (some ⟨b9,0,none⟩)) (grp x.toNat (es.take b))∧Below W.heap.size W w'):=by
  intro a b x W hab hb hbnd hrun hW
  have hg:=(zgy (es:=es) (i:=a) (e:=b) (x:=x) (by omega) hbnd hrun).1
  have hs:=HSUB.out a b (by omega)
  have:=IH (i+a) (i+b) (deep+1) W (by omega) (by omega) (fun k hk h1 h2=>by
   have h3:=HAT.out k hk (by omega) (by omega)
   obtain⟨h4,h5⟩:=List.getElem?_eq_some_iff.1 h3
   have h6:=hrun (k - i) h4 (by omega) (by omega)
   rw[h5] at h6
   obtain⟨h7,_⟩:=za40 h6
   omega) (by rw[hs,←hg];exact za4c (za3y hr)) (by rw[hs,←hg];exact zis (za3z hf)) (hE.later hW)
  rw[hs,←hg,Int.natCast_add deep 1] at this
  exact this
 have HEP:Hid (∀ W,Below w.heap.size w W→∀ k (hk:k<ps.length),W.cell? ⟨gp,k,none⟩=some (.string ⟨(nibs ps[k].1).toArray⟩)):=fun W hW=>(hE.later hW).path
 have HEB:Hid (∀ W,Below w.heap.size w W→W.cell? ⟨bp,0,none⟩=some (.slice (some ⟨gp,0,none⟩) ps.length cp)∧W.cell? ⟨bl,0,none⟩=some (.slice (some ⟨gl,off,none⟩) ps.length cl)∧W.cell? ⟨bg,0,none⟩=some (.func (.func 111) #[] #[.pointer (some ⟨bp,0,none⟩),.pointer (some ⟨bl,0,none⟩),.pointer (some ⟨bg,0,none⟩)])):=fun W hW=>⟨(one_cell (hE.later hW).paths).1,(one_cell (hE.later hW).pairs).1,(one_cell (hE.later hW).self).1⟩
 have HEV:Hid (∀ W,Below w.heap.size w W→W.cell? ⟨gl,off+i*2+1,none⟩=some (.string ⟨ps[i].2.toArray⟩)):=fun W hW=>(hE.later hW).pair i hi
 have HNB:Hid (∀ k (hk:k<ps.length),∀ x∈nibs ps[k].1,x.toNat<16):=hnib
 have HEND:Hid ((∀ k (hk:k<es.length),0<k→es[k].1≠[])∧endV es=if (nibs ps[i].1).drop deep=[] then ps[i].2 else []):=hend
 obtain⟨p,hp⟩:∃ p,p=nibs ps[i].1:=⟨_,rfl⟩
 obtain⟨q,hq⟩:∃ q,q=nibs ps[e - 1].1:=⟨_,rfl⟩
 obtain⟨v,hv⟩:∃ v,v=ps[i].2:=⟨_,rfl⟩
 have HA0:Hid (es[0]? = some (p.drop deep,v)):=by have:=HAT.out i hi (Nat.le_refl _) (by omega);rw[Nat.sub_self] at this;rw[hp,hv];exact this
 rw[←hp] at c3 hdi hki hcm HEND
 rw[←hq] at c4 hde hke hcm
 rw[←hv] at HEV HEND
 have hex:=zbg p deep hdi
 have hex2:=zbg q deep hde
 obtain⟨y,hy⟩:∃ y,y=p.drop deep:=⟨_,rfl⟩
 obtain⟨z,hz9⟩:∃ z,z=q.drop deep:=⟨_,rfl⟩
 have hyl:y.length≤24:=by rw[hy,List.length_drop];omega
 have hzl:z.length≤24:=by rw[hz9,List.length_drop];omega
 rw[←hy] at hex hcm HEND HA0
 rw[←hz9] at hex2 hcm
 have KA:=fun W=>zs4 y z W (by omega) (by omega)
 rw[←hcm] at KA
 obtain⟨e1',he1⟩:∃ e1',e1'=e - 1:=⟨_,rfl⟩
 rw[←he1] at c4
 have i0:(0:Int)≤(i:Int):=by omega
 have i1:(i:Int)<(ps.length:Int):=by omega
 have i2:(e:Int) - 1=(e1':Int):=by omega
 have i3:IntKind.i64.wrap (e1':Int)=(e1':Int):=zag _ (by omega) (by omega)
 have i4:i<ps.length:=hi
 have i5:(0:Int)≤(e1':Int):=by omega
 have i6:(e1':Int)<(ps.length:Int):=by omega
 have i7:e1'<ps.length:=by omega
 have i8:((e:Int) - (i:Int) == 1)=false:=by simp only[beq_eq_false_iff_ne,ne_eq];omega
 have hd':(deep:Int)≤(p.length:Int):=by omega
 have hd2:(deep:Int)≤(q.length:Int):=by omega
 clear hE hy hz9 hcm e0 e1 hlast hr hf IH hnib he1 hes hend hc hc0 hp hq hv
 go_enter Tryz.func111,Tryz.ntmps111
 go_wp2
 go_quiet (fail)
 go_wp2_with fail
 refine (KA _).mono ?_
 rintro r w1 ⟨rfl,b1'⟩
 have b1:Below w.heap.size w w1:=⟨b1'.os,b1'.tape,b1'.output,b1'.size,b1'.block⟩
 clear KA b1' c1 c3 c4
 have HA2:Hid (∀ w2:World,w2.ownsRow w1.heap.size 145 1 (.slice (some ⟨w1.heap.size,0,none⟩) 16 16) 16 (madeCells (Value.pointer none).cells (16*1)).toList→w1.grownBy w2 none→Below w.heap.size w (w2.alloc (.cells #[.int .i64 3,.string ⟨#[]⟩,.slice (some ⟨w1.heap.size,0,none⟩) 16 16,.string ⟨#[]⟩] 172))∧(w2.alloc (.cells #[.int .i64 3,.string ⟨#[]⟩,.slice (some ⟨w1.heap.size,0,none⟩) 16 16,.string ⟨#[]⟩] 172)).cell? ⟨bl,0,none⟩=some (.slice (some ⟨gl,off,none⟩) ps.length cl)∧(w2.alloc (.cells #[.int .i64 3,.string ⟨#[]⟩,.slice (some ⟨w1.heap.size,0,none⟩) 16 16,.string ⟨#[]⟩] 172)).cell? ⟨gl,off+i*2+1,none⟩=some (.string ⟨v.toArray⟩)∧((w2.alloc (.cells #[.int .i64 3,.string ⟨#[]⟩,.slice (some ⟨w1.heap.size,0,none⟩) 16 16,.string ⟨#[]⟩] 172)).cell? ⟨w2.heap.size,3,none⟩=some (.string ⟨#[]⟩)∧(w2.alloc (.cells #[.int .i64 3,.string ⟨#[]⟩,.slice (some ⟨w1.heap.size,0,none⟩) 16 16,.string ⟨#[]⟩] 172)).frozen? ⟨w2.heap.size,3,none⟩=false)∧Hid (w2.ownsRow w.heap.size 145 1 (.slice (some ⟨w1.heap.size,0,none⟩) 16 16) 16 (List.replicate 16 (.pointer none))∧w1.heap.size<w2.heap.size∧Below w.heap.size w w2)∧Hid ((w2.alloc (.cells #[.int .i64 3,.string ⟨#[]⟩,.slice (some ⟨w1.heap.size,0,none⟩) 16 16,.string ⟨#[]⟩] 172)).heap[w2.heap.size]? = some (.cells #[.int .i64 3,.string ⟨#[]⟩,.slice (some ⟨w1.heap.size,0,none⟩) 16 16,.string ⟨#[]⟩] 172 (0,0)))):=by
  intro w2 ho hg
  have B2:Below w.heap.size w w2:=b1.grown hg b1.size (by simp)
  have B3:Below w.heap.size w (w2.alloc (.cells #[.int .i64 3,.string ⟨#[]⟩,.slice (some ⟨w1.heap.size,0,none⟩) 16 16,.string ⟨#[]⟩] 172)):=B2.alloc B2.size _
  have hq:=zi (heap_alloc_new w2 (.cells #[.int .i64 3,.string ⟨#[]⟩,.slice (some ⟨w1.heap.size,0,none⟩) 16 16,.string ⟨#[]⟩] 172))
  rw[za3v] at ho
  exact⟨B3,(HEB.out _ B3).2.1,HEV.out _ B3,⟨hq.2.2.2.1,hq.2.2.2.2 3⟩,⟨ho.mono b1.size,(ho.lt w1.heap.size rfl).2,B2⟩,heap_alloc_new _ _⟩
 by_cases hye:y=[]
 · have hye' : y.isEmpty = true := by rw [hye]; rfl
   have hyb:(y == [])=true:=by simp[hye]
   go_wp2_with (at_make;refine wpList_make_full _ rfl _ _ 170 rfl w1.heap.size 145 j0 (.pointer none) 1 Tryz.underlying170 hj0 hy0 hy1 _ _ _ _ 16 rfl rfl (by omega) (by omega) (by rw[hy2];omega) (by unfold maxLen;omega) (Nat.le_refl _) ?_;intro w2 hown2 hgrow2;obtain⟨B3,c6,c7,f6,HO3,HN3⟩:=HA2.out w2 hown2 hgrow2;clear hown2 hgrow2)
   have hgk:w1.heap.size<w2.heap.size:=HO3.out.2.1
   have hwg:=b1.size
   have BS:Below w.heap.size w (w2.alloc (.cells #[.int .i64 3,.string ⟨#[]⟩,.slice (some ⟨w1.heap.size,0,none⟩) 16 16,.string ⟨v.toArray⟩] 172)):=HO3.out.2.2.alloc (by omega) _
   have HNS:Hid ((w2.alloc (.cells #[.int .i64 3,.string ⟨#[]⟩,.slice (some ⟨w1.heap.size,0,none⟩) 16 16,.string ⟨v.toArray⟩] 172)).heap[w2.heap.size]? = some (zdn (endV es) w1.heap.size)):=by
    rw[Hid,HEND.out.2,if_pos hye]
    exact heap_alloc_new _ _
   have HOS:Hid ((w2.alloc (.cells #[.int .i64 3,.string ⟨#[]⟩,.slice (some ⟨w1.heap.size,0,none⟩) 16 16,.string ⟨v.toArray⟩] 172)).ownsRow w.heap.size 145 1 (.slice (some ⟨w1.heap.size,0,none⟩) 16 16) 16 (List.replicate 16 (.pointer none))):=HO3.out.1.alloc _
   have HT1:Hid (0<es.length∧∀ (h:0<es.length),es[0].1=y):=⟨by omega,fun h=>by have h0:=HA0.out;obtain⟨h1,h2⟩:=List.getElem?_eq_some_iff.1 h0;rw[h2]⟩
   have HST:Hid (∀ d,grp d (es.take 1)=[]):=fun d=>by
    have h0:=HA0.out;rw[hye] at h0;cases es with | nil=>simp at h0 | cons e9 es9=>simp at h0;subst h0;simp[grp,grp1]
   have HB0:Hid (∀ (h:1<es.length) x,hdE es[1]=some x→∀ k (hk:k<es.length),k<1→hdE es[k]≠some x):=fun h x hx k hk hk1=>by
    obtain rfl:k=0:=(by omega);rw[hdE,HT1.out.2 hk,hye];simp
   have HN0:Hid (∀ k (hk:k<es.length),1≤k→es[k].1≠[]):=fun k hk h1=>by
    exact HEND.out.1 k hk (by omega)
   clear HO3 HN3 c6 c7 f6 HA2 HT1
   go_wp2
   go_loopw [0] (fun fr wr=>∃ (a fa:Nat) (qs:List Value),Hid (fa=i+a)∧a≤es.length∧fr=.int .i64 (fa:Int)∧qs.length=16∧Hid (∀ (h:a<es.length) x,hdE es[a]=some x→∀ k (hk:k<es.length),k<a→hdE es[k]≠some x)∧Hid (∀ k (hk:k<es.length),a≤k→es[k].1≠[])∧Hid (wr.ownsRow w.heap.size 145 1 (.slice (some ⟨w1.heap.size,0,none⟩) 16 16) 16 qs)∧Hid (wr.heap[w2.heap.size]? = some (zdn (endV es) w1.heap.size))∧Hid (∀ d,d<16→IsTrie wr (w2.heap.size+1) f (qs.getD d undef) (grp d (es.take a)))∧Below w.heap.size w wr) (fun fr _=>e - (intOf fr).toNat)
   case atStart=>exact⟨1,i+1,List.replicate 16 (.pointer none),rfl,by omega,by go_num,by simp,HB0,HN0,HOS,HNS,fun d hd=>by rw[HST.out,zry hd];exact IsTrie.nil _ _ _,BS⟩
   case round =>
    obtain⟨a,fa,qs,hfa,ha,rfl,hqs,HBND,HNE,HO,HN,HTR,hbel⟩:=hrel
    obtain⟨wo,rfl⟩:∃ wo,wo=wr:=⟨_,rfl⟩
    clear HB0 HN0 HOS HNS BS HST
    by_cases hlt:a<es.length
    · have hia : i + a < ps.length := by omega
      have ea:=HAT.out (i+a) hia (by omega) (by omega)
      rw[show i+a - i=a by omega] at ea
      obtain⟨ea1,ea2⟩:=List.getElem?_eq_some_iff.1 ea
      have hne:=HNE.out a ea1 (Nat.le_refl _)
      rw[ea2] at hne
      obtain⟨hdl,hdx⟩:=ziq (v:=ps[i+a].2) hne
      rw[←ea2] at hdx
      have hx16:=HNB.out (i+a) hia _ (List.getElem_mem hdl)
      obtain⟨x,hx⟩:∃ x,x=(nibs ps[i+a].1)[deep]:=⟨_,rfl⟩
      rw[←hx] at hx16 hdx
      have HX:Hid (hdE es[a]=some x):=hdx
      obtain⟨xn,hxn⟩:∃ xn,Hid (xn=x.toNat):=⟨_,rfl⟩
      have ep:=HEP.out _ hbel (i+a) hia
      have hpk:=hk24 (i+a) hia
      obtain⟨t,ht⟩:∃ t,t=nibs ps[i+a].1:=⟨_,rfl⟩
      have hdl':deep<t.length:=by rw[ht];exact hdl
      have hts:deep<(ByteArray.mk t.toArray).size:=by simpa [ByteArray.size] using hdl'
      have hbt:(((ByteArray.mk t.toArray)[deep]'hts).toNat:Int)=(xn:Int):=by
       rw[zfu t deep hdl',hxn.out,hx];simp only[ht]
      rw[←ht,←hfa.out] at ep
      have hc0:=(HEB.out _ hbel).1
      have hfa':=hfa.out
      have z1:(fa:Int)<(e:Int):=by omega
      have z2:(fa:Int)<(ps.length:Int):=by omega
      have z3:(0:Int)≤(fa:Int):=by omega
      have z7:fa<ps.length:=by omega
      have z8:(fa:Int)≤100:=by omega
      clear hfa'
      have z4:(deep:Int)<(t.length:Int):=by omega
      have z5:(xn:Int)<16:=by have:=hxn.out;omega
      have z6:xn<16:=by omega
      have HR1:Hid (∀ k (hk:k<es.length),a≤k→k<a+1→hdE es[k]=some x):=fun k hk h1 h2=>by
       have hka:k=a:=by omega
       subst hka
       exact HX.out
      clear ea ea2 hne hdx hx ht hdl
      go_wp2
      go_loopw [15] (fun en wx=>∃ b fb:Nat,Hid (fb=i+b)∧a<b∧b≤es.length∧en=.int .i64 (fb:Int)∧Hid (∀ k (hk:k<es.length),a≤k→k<b→hdE es[k]=some x)∧wx=wo) (fun en _=>e - (intOf en).toNat)
      case atStart=>exact⟨a+1,fa+1,by rw[Hid];have:=hfa.out;omega,by omega,by omega,by go_num,HR1,rfl⟩
      case round =>
       obtain⟨b,fb,hfb,hab,hbl,rfl,HRUN,hwx⟩:=hrel
       subst hwx
       have hfb':=hfb.out
       have hz1:(fb:Int)≤100:=by omega
       by_cases hlt2:b<es.length
       · have hz2 : (fb : Int) < (e : Int) := by omega
         have hz3:(fb:Int)<(ps.length:Int):=by omega
         have hz4:(0:Int)≤(fb:Int):=by omega
         have hz5:fb<ps.length:=by omega
         have hib:i+b<ps.length:=by omega
         have ep:=HEP.out _ hbel (i+b) hib
         have ea:=HAT.out (i+b) hib (by omega) (by omega)
         rw[show i+b - i=b by omega] at ea
         obtain⟨eb1,eb2⟩:=List.getElem?_eq_some_iff.1 ea
         have hne:=HNE.out b eb1 (by omega)
         rw[eb2] at hne
         obtain⟨hdl,hdx⟩:=ziq (v:=ps[i+b].2) hne
         rw[←eb2] at hdx
         have hpk:=hk24 (i+b) hib
         obtain⟨u,hu⟩:∃ u,u=nibs ps[i+b].1:=⟨_,rfl⟩
         have hbu:∀ (h:deep<(ByteArray.mk u.toArray).size),((((ByteArray.mk u.toArray)[deep]'h).toNat:Int) == (xn:Int))=decide (hdE es[b]=some x):=by
          intro h
          have hdl':deep<u.length:=by rw[hu];exact hdl
          rw[zfu u deep hdl',hdx]
          simp only[hu]
          rw[Bool.eq_iff_iff]
          simp only[beq_iff_eq,decide_eq_true_eq,Option.some.injEq]
          constructor
          · intro h9;exact UInt8.toNat_inj.1 (by have:=hxn.out;omega)
          · intro h9;rw[h9];have:=hxn.out;omega
         have hdl':deep<u.length:=by rw[hu];exact hdl
         have htu:deep<(ByteArray.mk u.toArray).size:=by simpa [ByteArray.size] using hdl'
         have hbv:=hbu htu
         have hdl2:(deep:Int)<(u.length:Int):=by omega
         rw[←hu,←hfb.out] at ep
         clear hfb'
         by_cases hsame:hdE es[b]=some x
         · rw[decide_eq_true hsame] at hbv
           have HRUN2:Hid (∀ k (hk:k<es.length),a≤k→k<b+1→hdE es[k]=some x):=fun k hk h1 h2=>by
            by_cases hkb:k=b
            · subst hkb;exact hsame
            · exact HRUN.out k hk h1 (by omega)
           clear hsame hbu hdx hne eb2 ea hu hdl
           go_wp2
           go_roundw
           case rel=>exact⟨b+1,fb+1,by rw[Hid];have:=hfb.out;omega,by omega,by omega,by go_num,HRUN2,by first | rfl | trivial⟩
           case measure=>simp[intOf];omega
         · rw [decide_eq_false hsame] at hbv
           have HNX:Hid (∀ (h:b<es.length) x',hdE es[b]=some x'→∀ k (hk:k<es.length),k<b→hdE es[k]≠some x'):=fun h x' hx' k hk hkb=>by
            rcases zsf HR.out.1 hab hlt2 (fun k hk h=>HBND.out hlt x HX.out k hk h) HRUN.out hsame k hk hkb with h9 | h9
            · rw[h9];simp
            · rw[hx'] at h9;exact h9
           clear hsame hbu hdx hne eb2 ea hu hdl
           have hdw:IntKind.i64.wrap ((deep:Int)+1)=(deep:Int)+1:=zag _ (by omega) (by omega)
           have HNE2:Hid (∀ k (hk:k<es.length),b≤k→es[k].1≠[]):=fun k hk h=>HNE.out k hk (by omega)
           have KI0:=HIH.out a b x wr.drew (by omega) (by omega) (fun k hk h=>HBND.out hlt x HX.out k hk h) HRUN.out ⟨hbel.os,hbel.tape,hbel.output,hbel.size,hbel.block⟩
           rw[←hfa.out,←hfb.out] at KI0
           have KI:=KI0
           clear KI0
           have HG:=zgy (es:=es) (i:=a) (e:=b) (x:=x) (by omega) (fun k hk h=>HBND.out hlt x HX.out k hk h) HRUN.out
           have HG2:Hid (∀ d,d≠x.toNat→grp d (es.take b)=grp d (es.take a)):=HG.2
           have SX:Hid (wr.cell? ⟨w2.heap.size,2,none⟩=some (.slice (some ⟨w1.heap.size,0,none⟩) 16 16)∧wr.cell? ⟨bg,0,none⟩=some (.func (.func 111) #[] #[.pointer (some ⟨bp,0,none⟩),.pointer (some ⟨bl,0,none⟩),.pointer (some ⟨bg,0,none⟩)])):=⟨(zi HN.out).2.2.1,(HEB.out wr hbel).2.2⟩
           have hnbw:w2.heap.size<wr.heap.size:=lt_of_block HN.out
           have hbg0:bg<w.heap.size:=World.block_lt_of_cell? w _ (HEB.out w (Below.refl _ _)).2.2
           have hbgw:bg<wr.heap.size:=World.block_lt_of_cell? wr _ SX.out.2
           have HXN:Hid (x.toNat=xn):=hxn.out.symm
           clear HG
           go_wp2_with fail
           go_region_held3 (fun w'=>w'.cell? ⟨w2.heap.size,2,none⟩=some (.slice (some ⟨w1.heap.size,0,none⟩) 16 16)∧w'.cell? ⟨bg,0,none⟩=some (.func (.func 111) #[] #[.pointer (some ⟨bp,0,none⟩),.pointer (some ⟨bl,0,none⟩),.pointer (some ⟨bg,0,none⟩)]))
            (first | exact S6.out | exact S5.out | exact SX.out)
            ((go_at_call 111
              with_reducible refine KI.mono ?_
              rintro r w5 ⟨b9,rfl,ht5,bb5'⟩
              have bb5:Below wr.heap.size wr w5:=zcp bb5'
              have T5:Hid (IsTrie w5 wr.heap.size f (.pointer (some ⟨b9,0,none⟩)) (grp x.toNat (es.take b))):=ht5
              have S5:Hid (w5.cell? ⟨w2.heap.size,2,none⟩=some (.slice (some ⟨w1.heap.size,0,none⟩) 16 16)∧w5.cell? ⟨bg,0,none⟩=some (.func (.func 111) #[] #[.pointer (some ⟨bp,0,none⟩),.pointer (some ⟨bl,0,none⟩),.pointer (some ⟨bg,0,none⟩)])):=⟨(bb5.cell (p:=⟨w2.heap.size,2,none⟩) hnbw).trans SX.out.1,(bb5.cell (p:=⟨bg,0,none⟩) hbgw).trans SX.out.2⟩
              have S6:Hid ((w5.setCell ⟨w1.heap.size,xn,none⟩ (.pointer (some ⟨b9,0,none⟩))).cell? ⟨w2.heap.size,2,none⟩=some (.slice (some ⟨w1.heap.size,0,none⟩) 16 16)∧(w5.setCell ⟨w1.heap.size,xn,none⟩ (.pointer (some ⟨b9,0,none⟩))).cell? ⟨bg,0,none⟩=some (.func (.func 111) #[] #[.pointer (some ⟨bp,0,none⟩),.pointer (some ⟨bl,0,none⟩),.pointer (some ⟨bg,0,none⟩)])):=⟨(World.cell?_of_block (Below.heap_setCell _ _ _ _ (by simp only;omega))).trans S5.out.1,(World.cell?_of_block (Below.heap_setCell _ _ _ _ (by simp only;omega))).trans S5.out.2⟩
              have O5:=zc (zan HO.out bb5)
              obtain⟨x5,hx5⟩:∃ o,w5.cell? ⟨w1.heap.size,xn,none⟩=some o:=by rw[O5.out.cellAt xn (by omega)];exact⟨_,List.getElem?_eq_getElem (by omega)⟩
              have f5:=O5.out.frozenAt xn
              have HB5:Hid (Below wr.heap.size wr w5):=bb5
              clear ht5 bb5 bb5'))
           all_goals
            have ST:=O5.out.stored xn (.pointer (some ⟨b9,0,none⟩))
            have O6:Hid ((w5.setCell ⟨w1.heap.size,xn,none⟩ (.pointer (some ⟨b9,0,none⟩))).ownsRow w.heap.size 145 1 (.slice (some ⟨w1.heap.size,0,none⟩) 16 16) 16 (qs.set xn (.pointer (some ⟨b9,0,none⟩)))):=ST.1
            have hnoth:∀ k,k≠w1.heap.size→(w5.setCell ⟨w1.heap.size,xn,none⟩ (.pointer (some ⟨b9,0,none⟩))).heap[k]? = w5.heap[k]? := fun k hk=>Below.heap_setCell _ _ _ _ hk
            have N6:Hid ((w5.setCell ⟨w1.heap.size,xn,none⟩ (.pointer (some ⟨b9,0,none⟩))).heap[w2.heap.size]? = some (zdn (endV es) w1.heap.size)):=(hnoth _ (by omega)).trans ((HB5.out.block _ hnbw).trans HN.out)
            have T6:Hid (∀ d,d<16→IsTrie (w5.setCell ⟨w1.heap.size,xn,none⟩ (.pointer (some ⟨b9,0,none⟩))) (w2.heap.size+1) f ((qs.set xn (.pointer (some ⟨b9,0,none⟩))).getD d undef) (grp d (es.take b))):=by
             intro d hd
             refine IsTrie.kept (w:=w5) (fun k h1 h2=>hnoth k (by omega)) f _ _ ?_
             by_cases hdx:d=xn
             · subst hdx
               rw[show (qs.set d (.pointer (some ⟨b9,0,none⟩))).getD d undef=.pointer (some ⟨b9,0,none⟩) by rw[List.getD_eq_getElem?_getD,List.getElem?_set_self (by omega)];rfl]
               have:=T5.out
               rw[HXN.out] at this
               exact IsTrie.mono (by omega) _ _ _ this
             · rw[show (qs.set xn (.pointer (some ⟨b9,0,none⟩))).getD d undef=qs.getD d undef by rw[List.getD_eq_getElem?_getD,List.getElem?_set_ne (fun e=>hdx e.symm),←List.getD_eq_getElem?_getD],HG2.out d (by have:=HXN.out;omega)]
               exact (HTR.out d hd).later HB5.out
            have B6:Below w.heap.size w (w5.setCell ⟨w1.heap.size,xn,none⟩ (.pointer (some ⟨b9,0,none⟩))):=(hbel.trans (HB5.out.mono hbel.size)).setCell (p:=⟨w1.heap.size,xn,none⟩) hwg _
            clear ST hnoth O5 T5
            go_wp2
            go_roundw
            case rel=>exact⟨b,fb,qs.set xn (.pointer (some ⟨b9,0,none⟩)),hfb,hbl,rfl,by rw[List.length_set];exact hqs,HNX,HNE2,O6,N6,T6,B6⟩
            case measure=>(have h8:=hfa.out;have h9:=hfb.out;simp[intOf];omega)
       · have hz2:¬ (fb:Int)<(e:Int):=by omega
         have HNX:Hid (∀ (h:b<es.length) x',hdE es[b]=some x'→∀ k (hk:k<es.length),k<b→hdE es[k]≠some x'):=fun h=>by omega
         clear hfb'
         have hdw:IntKind.i64.wrap ((deep:Int)+1)=(deep:Int)+1:=zag _ (by omega) (by omega)
         have HNE2:Hid (∀ k (hk:k<es.length),b≤k→es[k].1≠[]):=fun k hk h=>HNE.out k hk (by omega)
         have KI0:=HIH.out a b x wr.drew (by omega) (by omega) (fun k hk h=>HBND.out hlt x HX.out k hk h) HRUN.out ⟨hbel.os,hbel.tape,hbel.output,hbel.size,hbel.block⟩
         rw[←hfa.out,←hfb.out] at KI0
         have KI:=KI0
         clear KI0
         have HG:=zgy (es:=es) (i:=a) (e:=b) (x:=x) (by omega) (fun k hk h=>HBND.out hlt x HX.out k hk h) HRUN.out
         have HG2:Hid (∀ d,d≠x.toNat→grp d (es.take b)=grp d (es.take a)):=HG.2
         have SX:Hid (wr.cell? ⟨w2.heap.size,2,none⟩=some (.slice (some ⟨w1.heap.size,0,none⟩) 16 16)∧wr.cell? ⟨bg,0,none⟩=some (.func (.func 111) #[] #[.pointer (some ⟨bp,0,none⟩),.pointer (some ⟨bl,0,none⟩),.pointer (some ⟨bg,0,none⟩)])):=⟨(zi HN.out).2.2.1,(HEB.out wr hbel).2.2⟩
         have hnbw:w2.heap.size<wr.heap.size:=lt_of_block HN.out
         have hbg0:bg<w.heap.size:=World.block_lt_of_cell? w _ (HEB.out w (Below.refl _ _)).2.2
         have hbgw:bg<wr.heap.size:=World.block_lt_of_cell? wr _ SX.out.2
         have HXN:Hid (x.toNat=xn):=hxn.out.symm
         clear HG
         go_wp2_with fail
         go_region_held3 (fun w'=>w'.cell? ⟨w2.heap.size,2,none⟩=some (.slice (some ⟨w1.heap.size,0,none⟩) 16 16)∧w'.cell? ⟨bg,0,none⟩=some (.func (.func 111) #[] #[.pointer (some ⟨bp,0,none⟩),.pointer (some ⟨bl,0,none⟩),.pointer (some ⟨bg,0,none⟩)]))
          (first | exact S6.out | exact S5.out | exact SX.out)
          ((go_at_call 111
            with_reducible refine KI.mono ?_
            rintro r w5 ⟨b9,rfl,ht5,bb5'⟩
            have bb5:Below wr.heap.size wr w5:=zcp bb5'
            have T5:Hid (IsTrie w5 wr.heap.size f (.pointer (some ⟨b9,0,none⟩)) (grp x.toNat (es.take b))):=ht5
            have S5:Hid (w5.cell? ⟨w2.heap.size,2,none⟩=some (.slice (some ⟨w1.heap.size,0,none⟩) 16 16)∧w5.cell? ⟨bg,0,none⟩=some (.func (.func 111) #[] #[.pointer (some ⟨bp,0,none⟩),.pointer (some ⟨bl,0,none⟩),.pointer (some ⟨bg,0,none⟩)])):=⟨(bb5.cell (p:=⟨w2.heap.size,2,none⟩) hnbw).trans SX.out.1,(bb5.cell (p:=⟨bg,0,none⟩) hbgw).trans SX.out.2⟩
            have S6:Hid ((w5.setCell ⟨w1.heap.size,xn,none⟩ (.pointer (some ⟨b9,0,none⟩))).cell? ⟨w2.heap.size,2,none⟩=some (.slice (some ⟨w1.heap.size,0,none⟩) 16 16)∧(w5.setCell ⟨w1.heap.size,xn,none⟩ (.pointer (some ⟨b9,0,none⟩))).cell? ⟨bg,0,none⟩=some (.func (.func 111) #[] #[.pointer (some ⟨bp,0,none⟩),.pointer (some ⟨bl,0,none⟩),.pointer (some ⟨bg,0,none⟩)])):=⟨(World.cell?_of_block (Below.heap_setCell _ _ _ _ (by simp only;omega))).trans S5.out.1,(World.cell?_of_block (Below.heap_setCell _ _ _ _ (by simp only;omega))).trans S5.out.2⟩
            have O5:=zc (zan HO.out bb5)
            obtain⟨x5,hx5⟩:∃ o,w5.cell? ⟨w1.heap.size,xn,none⟩=some o:=by rw[O5.out.cellAt xn (by omega)];exact⟨_,List.getElem?_eq_getElem (by omega)⟩
            have f5:=O5.out.frozenAt xn
            have HB5:Hid (Below wr.heap.size wr w5):=bb5
            clear ht5 bb5 bb5'))
         all_goals
          have ST:=O5.out.stored xn (.pointer (some ⟨b9,0,none⟩))
          have O6:Hid ((w5.setCell ⟨w1.heap.size,xn,none⟩ (.pointer (some ⟨b9,0,none⟩))).ownsRow w.heap.size 145 1 (.slice (some ⟨w1.heap.size,0,none⟩) 16 16) 16 (qs.set xn (.pointer (some ⟨b9,0,none⟩)))):=ST.1
          have hnoth:∀ k,k≠w1.heap.size→(w5.setCell ⟨w1.heap.size,xn,none⟩ (.pointer (some ⟨b9,0,none⟩))).heap[k]? = w5.heap[k]? := fun k hk=>Below.heap_setCell _ _ _ _ hk
          have N6:Hid ((w5.setCell ⟨w1.heap.size,xn,none⟩ (.pointer (some ⟨b9,0,none⟩))).heap[w2.heap.size]? = some (zdn (endV es) w1.heap.size)):=(hnoth _ (by omega)).trans ((HB5.out.block _ hnbw).trans HN.out)
          have T6:Hid (∀ d,d<16→IsTrie (w5.setCell ⟨w1.heap.size,xn,none⟩ (.pointer (some ⟨b9,0,none⟩))) (w2.heap.size+1) f ((qs.set xn (.pointer (some ⟨b9,0,none⟩))).getD d undef) (grp d (es.take b))):=by
           intro d hd
           refine IsTrie.kept (w:=w5) (fun k h1 h2=>hnoth k (by omega)) f _ _ ?_
           by_cases hdx:d=xn
           · subst hdx
             rw[show (qs.set d (.pointer (some ⟨b9,0,none⟩))).getD d undef=.pointer (some ⟨b9,0,none⟩) by rw[List.getD_eq_getElem?_getD,List.getElem?_set_self (by omega)];rfl]
             have:=T5.out
             rw[HXN.out] at this
             exact IsTrie.mono (by omega) _ _ _ this
           · rw[show (qs.set xn (.pointer (some ⟨b9,0,none⟩))).getD d undef=qs.getD d undef by rw[List.getD_eq_getElem?_getD,List.getElem?_set_ne (fun e=>hdx e.symm),←List.getD_eq_getElem?_getD],HG2.out d (by have:=HXN.out;omega)]
             exact (HTR.out d hd).later HB5.out
          have B6:Below w.heap.size w (w5.setCell ⟨w1.heap.size,xn,none⟩ (.pointer (some ⟨b9,0,none⟩))):=(hbel.trans (HB5.out.mono hbel.size)).setCell (p:=⟨w1.heap.size,xn,none⟩) hwg _
          clear ST hnoth O5 T5
          go_wp2
          go_roundw
          case rel=>exact⟨b,fb,qs.set xn (.pointer (some ⟨b9,0,none⟩)),hfb,hbl,rfl,by rw[List.length_set];exact hqs,HNX,HNE2,O6,N6,T6,B6⟩
          case measure=>(have h8:=hfa.out;have h9:=hfb.out;simp[intOf];omega)
    · have hfa':=hfa.out
      have z1:¬ (fa:Int)<(e:Int):=by omega
      obtain rfl:a=es.length:=by omega
      obtain⟨qa,hqa1,hqa2,hqa3⟩:=zrz HO.out hqs
      have HTF:Hid (∀ d,d<16→IsTrie wo w.heap.size f (qa.getD d undef) (grp d es)):=fun d hd=>by
       have:=HTR.out d hd
       rw[List.take_length] at this
       rw[hqa3]
       exact IsTrie.mono (by omega) _ _ _ this
      have HQ:Hid (wo.heap[w1.heap.size]? = some (.cells qa 145 (0,0))∧qa.size=16):=⟨hqa1,hqa2⟩
      clear hqa1 hqa2 hqa3 HTR HO hfa'
      go_wp2
      go_ret
      exact⟨_,rfl,by omega,_,hwg,HN.out,qa,HQ.out.1,HQ.out.2,fun d hd=>by have:=HTF.out d hd;rw[Array.getD_eq_getD_getElem?] at this;exact this,hbel⟩
 · have hye' : y.isEmpty = false := by cases y with | nil => exact absurd rfl hye | cons _ _ => rfl
   go_wp2_with (at_make;refine wpList_make_full _ rfl _ _ 170 rfl w1.heap.size 145 j0 (.pointer none) 1 Tryz.underlying170 hj0 hy0 hy1 _ _ _ _ 16 rfl rfl (by omega) (by omega) (by rw[hy2];omega) (by unfold maxLen;omega) (Nat.le_refl _) ?_;intro w2 hown2 hgrow2;obtain⟨B3,c6,c7,f6,HO3,HN3⟩:=HA2.out w2 hown2 hgrow2;clear hown2 hgrow2)
   have hgk:w1.heap.size<w2.heap.size:=HO3.out.2.1
   have hwg:=b1.size
   have BS:Below w.heap.size w (w2.alloc (.cells #[.int .i64 3,.string ⟨#[]⟩,.slice (some ⟨w1.heap.size,0,none⟩) 16 16,.string ⟨#[]⟩] 172)):=HO3.out.2.2.alloc (by omega) _
   have HNS:Hid ((w2.alloc (.cells #[.int .i64 3,.string ⟨#[]⟩,.slice (some ⟨w1.heap.size,0,none⟩) 16 16,.string ⟨#[]⟩] 172)).heap[w2.heap.size]? = some (zdn (endV es) w1.heap.size)):=by
    rw[Hid,HEND.out.2,if_neg hye]
    exact heap_alloc_new _ _
   have HOS:Hid ((w2.alloc (.cells #[.int .i64 3,.string ⟨#[]⟩,.slice (some ⟨w1.heap.size,0,none⟩) 16 16,.string ⟨#[]⟩] 172)).ownsRow w.heap.size 145 1 (.slice (some ⟨w1.heap.size,0,none⟩) 16 16) 16 (List.replicate 16 (.pointer none))):=HO3.out.1.alloc _
   have HT1:Hid (0<es.length∧∀ (h:0<es.length),es[0].1=y):=⟨by omega,fun h=>by have h0:=HA0.out;obtain⟨h1,h2⟩:=List.getElem?_eq_some_iff.1 h0;rw[h2]⟩
   have HST:Hid (∀ d,grp d (es.take 0)=[]):=fun d=>by
    simp[grp]
   have HB0:Hid (∀ (h:0<es.length) x,hdE es[0]=some x→∀ k (hk:k<es.length),k<0→hdE es[k]≠some x):=fun h x hx k hk hk1=>by
    omega
   have HN0:Hid (∀ k (hk:k<es.length),0≤k→es[k].1≠[]):=fun k hk h1=>by
    rcases Nat.eq_zero_or_pos k with h0 | h0;(subst h0;rw[HT1.out.2 hk];exact hye);exact HEND.out.1 k hk h0
   clear HO3 HN3 c6 c7 f6 HA2 HT1
   go_wp2
   go_loopw [0] (fun fr wr=>∃ (a fa:Nat) (qs:List Value),Hid (fa=i+a)∧a≤es.length∧fr=.int .i64 (fa:Int)∧qs.length=16∧Hid (∀ (h:a<es.length) x,hdE es[a]=some x→∀ k (hk:k<es.length),k<a→hdE es[k]≠some x)∧Hid (∀ k (hk:k<es.length),a≤k→es[k].1≠[])∧Hid (wr.ownsRow w.heap.size 145 1 (.slice (some ⟨w1.heap.size,0,none⟩) 16 16) 16 qs)∧Hid (wr.heap[w2.heap.size]? = some (zdn (endV es) w1.heap.size))∧Hid (∀ d,d<16→IsTrie wr (w2.heap.size+1) f (qs.getD d undef) (grp d (es.take a)))∧Below w.heap.size w wr) (fun fr _=>e - (intOf fr).toNat)
   case atStart=>exact⟨0,i+0,List.replicate 16 (.pointer none),rfl,by omega,by go_num,by simp,HB0,HN0,HOS,HNS,fun d hd=>by rw[HST.out,zry hd];exact IsTrie.nil _ _ _,BS⟩
   case round =>
    obtain⟨a,fa,qs,hfa,ha,rfl,hqs,HBND,HNE,HO,HN,HTR,hbel⟩:=hrel
    obtain⟨wo,rfl⟩:∃ wo,wo=wr:=⟨_,rfl⟩
    clear HB0 HN0 HOS HNS BS HST
    by_cases hlt:a<es.length
    · have hia : i + a < ps.length := by omega
      have ea:=HAT.out (i+a) hia (by omega) (by omega)
      rw[show i+a - i=a by omega] at ea
      obtain⟨ea1,ea2⟩:=List.getElem?_eq_some_iff.1 ea
      have hne:=HNE.out a ea1 (Nat.le_refl _)
      rw[ea2] at hne
      obtain⟨hdl,hdx⟩:=ziq (v:=ps[i+a].2) hne
      rw[←ea2] at hdx
      have hx16:=HNB.out (i+a) hia _ (List.getElem_mem hdl)
      obtain⟨x,hx⟩:∃ x,x=(nibs ps[i+a].1)[deep]:=⟨_,rfl⟩
      rw[←hx] at hx16 hdx
      have HX:Hid (hdE es[a]=some x):=hdx
      obtain⟨xn,hxn⟩:∃ xn,Hid (xn=x.toNat):=⟨_,rfl⟩
      have ep:=HEP.out _ hbel (i+a) hia
      have hpk:=hk24 (i+a) hia
      obtain⟨t,ht⟩:∃ t,t=nibs ps[i+a].1:=⟨_,rfl⟩
      have hdl':deep<t.length:=by rw[ht];exact hdl
      have hts:deep<(ByteArray.mk t.toArray).size:=by simpa [ByteArray.size] using hdl'
      have hbt:(((ByteArray.mk t.toArray)[deep]'hts).toNat:Int)=(xn:Int):=by
       rw[zfu t deep hdl',hxn.out,hx];simp only[ht]
      rw[←ht,←hfa.out] at ep
      have hc0:=(HEB.out _ hbel).1
      have hfa':=hfa.out
      have z1:(fa:Int)<(e:Int):=by omega
      have z2:(fa:Int)<(ps.length:Int):=by omega
      have z3:(0:Int)≤(fa:Int):=by omega
      have z7:fa<ps.length:=by omega
      have z8:(fa:Int)≤100:=by omega
      clear hfa'
      have z4:(deep:Int)<(t.length:Int):=by omega
      have z5:(xn:Int)<16:=by have:=hxn.out;omega
      have z6:xn<16:=by omega
      have HR1:Hid (∀ k (hk:k<es.length),a≤k→k<a+1→hdE es[k]=some x):=fun k hk h1 h2=>by
       have hka:k=a:=by omega
       subst hka
       exact HX.out
      clear ea ea2 hne hdx hx ht hdl
      go_wp2
      go_loopw [15] (fun en wx=>∃ b fb:Nat,Hid (fb=i+b)∧a<b∧b≤es.length∧en=.int .i64 (fb:Int)∧Hid (∀ k (hk:k<es.length),a≤k→k<b→hdE es[k]=some x)∧wx=wo) (fun en _=>e - (intOf en).toNat)
      case atStart=>exact⟨a+1,fa+1,by rw[Hid];have:=hfa.out;omega,by omega,by omega,by go_num,HR1,rfl⟩
      case round =>
       obtain⟨b,fb,hfb,hab,hbl,rfl,HRUN,hwx⟩:=hrel
       subst hwx
       have hfb':=hfb.out
       have hz1:(fb:Int)≤100:=by omega
       by_cases hlt2:b<es.length
       · have hz2 : (fb : Int) < (e : Int) := by omega
         have hz3:(fb:Int)<(ps.length:Int):=by omega
         have hz4:(0:Int)≤(fb:Int):=by omega
         have hz5:fb<ps.length:=by omega
         have hib:i+b<ps.length:=by omega
         have ep:=HEP.out _ hbel (i+b) hib
         have ea:=HAT.out (i+b) hib (by omega) (by omega)
         rw[show i+b - i=b by omega] at ea
         obtain⟨eb1,eb2⟩:=List.getElem?_eq_some_iff.1 ea
         have hne:=HNE.out b eb1 (by omega)
         rw[eb2] at hne
         obtain⟨hdl,hdx⟩:=ziq (v:=ps[i+b].2) hne
         rw[←eb2] at hdx
         have hpk:=hk24 (i+b) hib
         obtain⟨u,hu⟩:∃ u,u=nibs ps[i+b].1:=⟨_,rfl⟩
         have hbu:∀ (h:deep<(ByteArray.mk u.toArray).size),((((ByteArray.mk u.toArray)[deep]'h).toNat:Int) == (xn:Int))=decide (hdE es[b]=some x):=by
          intro h
          have hdl':deep<u.length:=by rw[hu];exact hdl
          rw[zfu u deep hdl',hdx]
          simp only[hu]
          rw[Bool.eq_iff_iff]
          simp only[beq_iff_eq,decide_eq_true_eq,Option.some.injEq]
          constructor
          · intro h9;exact UInt8.toNat_inj.1 (by have:=hxn.out;omega)
          · intro h9;rw[h9];have:=hxn.out;omega
         have hdl':deep<u.length:=by rw[hu];exact hdl
         have htu:deep<(ByteArray.mk u.toArray).size:=by simpa [ByteArray.size] using hdl'
         have hbv:=hbu htu
         have hdl2:(deep:Int)<(u.length:Int):=by omega
         rw[←hu,←hfb.out] at ep
         clear hfb'
         by_cases hsame:hdE es[b]=some x
         · rw[decide_eq_true hsame] at hbv
           have HRUN2:Hid (∀ k (hk:k<es.length),a≤k→k<b+1→hdE es[k]=some x):=fun k hk h1 h2=>by
            by_cases hkb:k=b
            · subst hkb;exact hsame
            · exact HRUN.out k hk h1 (by omega)
           clear hsame hbu hdx hne eb2 ea hu hdl
           go_wp2
           go_roundw
           case rel=>exact⟨b+1,fb+1,by rw[Hid];have:=hfb.out;omega,by omega,by omega,by go_num,HRUN2,by first | rfl | trivial⟩
           case measure=>simp[intOf];omega
         · rw [decide_eq_false hsame] at hbv
           have HNX:Hid (∀ (h:b<es.length) x',hdE es[b]=some x'→∀ k (hk:k<es.length),k<b→hdE es[k]≠some x'):=fun h x' hx' k hk hkb=>by
            rcases zsf HR.out.1 hab hlt2 (fun k hk h=>HBND.out hlt x HX.out k hk h) HRUN.out hsame k hk hkb with h9 | h9
            · rw[h9];simp
            · rw[hx'] at h9;exact h9
           clear hsame hbu hdx hne eb2 ea hu hdl
           have hdw:IntKind.i64.wrap ((deep:Int)+1)=(deep:Int)+1:=zag _ (by omega) (by omega)
           have HNE2:Hid (∀ k (hk:k<es.length),b≤k→es[k].1≠[]):=fun k hk h=>HNE.out k hk (by omega)
           have KI0:=HIH.out a b x wr.drew (by omega) (by omega) (fun k hk h=>HBND.out hlt x HX.out k hk h) HRUN.out ⟨hbel.os,hbel.tape,hbel.output,hbel.size,hbel.block⟩
           rw[←hfa.out,←hfb.out] at KI0
           have KI:=KI0
           clear KI0
           have HG:=zgy (es:=es) (i:=a) (e:=b) (x:=x) (by omega) (fun k hk h=>HBND.out hlt x HX.out k hk h) HRUN.out
           have HG2:Hid (∀ d,d≠x.toNat→grp d (es.take b)=grp d (es.take a)):=HG.2
           have SX:Hid (wr.cell? ⟨w2.heap.size,2,none⟩=some (.slice (some ⟨w1.heap.size,0,none⟩) 16 16)∧wr.cell? ⟨bg,0,none⟩=some (.func (.func 111) #[] #[.pointer (some ⟨bp,0,none⟩),.pointer (some ⟨bl,0,none⟩),.pointer (some ⟨bg,0,none⟩)])):=⟨(zi HN.out).2.2.1,(HEB.out wr hbel).2.2⟩
           have hnbw:w2.heap.size<wr.heap.size:=lt_of_block HN.out
           have hbg0:bg<w.heap.size:=World.block_lt_of_cell? w _ (HEB.out w (Below.refl _ _)).2.2
           have hbgw:bg<wr.heap.size:=World.block_lt_of_cell? wr _ SX.out.2
           have HXN:Hid (x.toNat=xn):=hxn.out.symm
           clear HG
           go_wp2_with fail
           go_region_held3 (fun w'=>w'.cell? ⟨w2.heap.size,2,none⟩=some (.slice (some ⟨w1.heap.size,0,none⟩) 16 16)∧w'.cell? ⟨bg,0,none⟩=some (.func (.func 111) #[] #[.pointer (some ⟨bp,0,none⟩),.pointer (some ⟨bl,0,none⟩),.pointer (some ⟨bg,0,none⟩)]))
            (first | exact S6.out | exact S5.out | exact SX.out)
            ((go_at_call 111
              with_reducible refine KI.mono ?_
              rintro r w5 ⟨b9,rfl,ht5,bb5'⟩
              have bb5:Below wr.heap.size wr w5:=zcp bb5'
              have T5:Hid (IsTrie w5 wr.heap.size f (.pointer (some ⟨b9,0,none⟩)) (grp x.toNat (es.take b))):=ht5
              have S5:Hid (w5.cell? ⟨w2.heap.size,2,none⟩=some (.slice (some ⟨w1.heap.size,0,none⟩) 16 16)∧w5.cell? ⟨bg,0,none⟩=some (.func (.func 111) #[] #[.pointer (some ⟨bp,0,none⟩),.pointer (some ⟨bl,0,none⟩),.pointer (some ⟨bg,0,none⟩)])):=⟨(bb5.cell (p:=⟨w2.heap.size,2,none⟩) hnbw).trans SX.out.1,(bb5.cell (p:=⟨bg,0,none⟩) hbgw).trans SX.out.2⟩
              have S6:Hid ((w5.setCell ⟨w1.heap.size,xn,none⟩ (.pointer (some ⟨b9,0,none⟩))).cell? ⟨w2.heap.size,2,none⟩=some (.slice (some ⟨w1.heap.size,0,none⟩) 16 16)∧(w5.setCell ⟨w1.heap.size,xn,none⟩ (.pointer (some ⟨b9,0,none⟩))).cell? ⟨bg,0,none⟩=some (.func (.func 111) #[] #[.pointer (some ⟨bp,0,none⟩),.pointer (some ⟨bl,0,none⟩),.pointer (some ⟨bg,0,none⟩)])):=⟨(World.cell?_of_block (Below.heap_setCell _ _ _ _ (by simp only;omega))).trans S5.out.1,(World.cell?_of_block (Below.heap_setCell _ _ _ _ (by simp only;omega))).trans S5.out.2⟩
              have O5:=zc (zan HO.out bb5)
              obtain⟨x5,hx5⟩:∃ o,w5.cell? ⟨w1.heap.size,xn,none⟩=some o:=by rw[O5.out.cellAt xn (by omega)];exact⟨_,List.getElem?_eq_getElem (by omega)⟩
              have f5:=O5.out.frozenAt xn
              have HB5:Hid (Below wr.heap.size wr w5):=bb5
              clear ht5 bb5 bb5'))
           all_goals
            have ST:=O5.out.stored xn (.pointer (some ⟨b9,0,none⟩))
            have O6:Hid ((w5.setCell ⟨w1.heap.size,xn,none⟩ (.pointer (some ⟨b9,0,none⟩))).ownsRow w.heap.size 145 1 (.slice (some ⟨w1.heap.size,0,none⟩) 16 16) 16 (qs.set xn (.pointer (some ⟨b9,0,none⟩)))):=ST.1
            have hnoth:∀ k,k≠w1.heap.size→(w5.setCell ⟨w1.heap.size,xn,none⟩ (.pointer (some ⟨b9,0,none⟩))).heap[k]? = w5.heap[k]? := fun k hk=>Below.heap_setCell _ _ _ _ hk
            have N6:Hid ((w5.setCell ⟨w1.heap.size,xn,none⟩ (.pointer (some ⟨b9,0,none⟩))).heap[w2.heap.size]? = some (zdn (endV es) w1.heap.size)):=(hnoth _ (by omega)).trans ((HB5.out.block _ hnbw).trans HN.out)
            have T6:Hid (∀ d,d<16→IsTrie (w5.setCell ⟨w1.heap.size,xn,none⟩ (.pointer (some ⟨b9,0,none⟩))) (w2.heap.size+1) f ((qs.set xn (.pointer (some ⟨b9,0,none⟩))).getD d undef) (grp d (es.take b))):=by
             intro d hd
             refine IsTrie.kept (w:=w5) (fun k h1 h2=>hnoth k (by omega)) f _ _ ?_
             by_cases hdx:d=xn
             · subst hdx
               rw[show (qs.set d (.pointer (some ⟨b9,0,none⟩))).getD d undef=.pointer (some ⟨b9,0,none⟩) by rw[List.getD_eq_getElem?_getD,List.getElem?_set_self (by omega)];rfl]
               have:=T5.out
               rw[HXN.out] at this
               exact IsTrie.mono (by omega) _ _ _ this
             · rw[show (qs.set xn (.pointer (some ⟨b9,0,none⟩))).getD d undef=qs.getD d undef by rw[List.getD_eq_getElem?_getD,List.getElem?_set_ne (fun e=>hdx e.symm),←List.getD_eq_getElem?_getD],HG2.out d (by have:=HXN.out;omega)]
               exact (HTR.out d hd).later HB5.out
            have B6:Below w.heap.size w (w5.setCell ⟨w1.heap.size,xn,none⟩ (.pointer (some ⟨b9,0,none⟩))):=(hbel.trans (HB5.out.mono hbel.size)).setCell (p:=⟨w1.heap.size,xn,none⟩) hwg _
            clear ST hnoth O5 T5
            go_wp2
            go_roundw
            case rel=>exact⟨b,fb,qs.set xn (.pointer (some ⟨b9,0,none⟩)),hfb,hbl,rfl,by rw[List.length_set];exact hqs,HNX,HNE2,O6,N6,T6,B6⟩
            case measure=>(have h8:=hfa.out;have h9:=hfb.out;simp[intOf];omega)
       · have hz2:¬ (fb:Int)<(e:Int):=by omega
         have HNX:Hid (∀ (h:b<es.length) x',hdE es[b]=some x'→∀ k (hk:k<es.length),k<b→hdE es[k]≠some x'):=fun h=>by omega
         clear hfb'
         have hdw:IntKind.i64.wrap ((deep:Int)+1)=(deep:Int)+1:=zag _ (by omega) (by omega)
         have HNE2:Hid (∀ k (hk:k<es.length),b≤k→es[k].1≠[]):=fun k hk h=>HNE.out k hk (by omega)
         have KI0:=HIH.out a b x wr.drew (by omega) (by omega) (fun k hk h=>HBND.out hlt x HX.out k hk h) HRUN.out ⟨hbel.os,hbel.tape,hbel.output,hbel.size,hbel.block⟩
         rw[←hfa.out,←hfb.out] at KI0
         have KI:=KI0
         clear KI0
         have HG:=zgy (es:=es) (i:=a) (e:=b) (x:=x) (by omega) (fun k hk h=>HBND.out hlt x HX.out k hk h) HRUN.out
         have HG2:Hid (∀ d,d≠x.toNat→grp d (es.take b)=grp d (es.take a)):=HG.2
         have SX:Hid (wr.cell? ⟨w2.heap.size,2,none⟩=some (.slice (some ⟨w1.heap.size,0,none⟩) 16 16)∧wr.cell? ⟨bg,0,none⟩=some (.func (.func 111) #[] #[.pointer (some ⟨bp,0,none⟩),.pointer (some ⟨bl,0,none⟩),.pointer (some ⟨bg,0,none⟩)])):=⟨(zi HN.out).2.2.1,(HEB.out wr hbel).2.2⟩
         have hnbw:w2.heap.size<wr.heap.size:=lt_of_block HN.out
         have hbg0:bg<w.heap.size:=World.block_lt_of_cell? w _ (HEB.out w (Below.refl _ _)).2.2
         have hbgw:bg<wr.heap.size:=World.block_lt_of_cell? wr _ SX.out.2
         have HXN:Hid (x.toNat=xn):=hxn.out.symm
         clear HG
         go_wp2_with fail
         go_region_held3 (fun w'=>w'.cell? ⟨w2.heap.size,2,none⟩=some (.slice (some ⟨w1.heap.size,0,none⟩) 16 16)∧w'.cell? ⟨bg,0,none⟩=some (.func (.func 111) #[] #[.pointer (some ⟨bp,0,none⟩),.pointer (some ⟨bl,0,none⟩),.pointer (some ⟨bg,0,none⟩)]))
          (first | exact S6.out | exact S5.out | exact SX.out)
          ((go_at_call 111
            with_reducible refine KI.mono ?_
            rintro r w5 ⟨b9,rfl,ht5,bb5'⟩
            have bb5:Below wr.heap.size wr w5:=zcp bb5'
            have T5:Hid (IsTrie w5 wr.heap.size f (.pointer (some ⟨b9,0,none⟩)) (grp x.toNat (es.take b))):=ht5
            have S5:Hid (w5.cell? ⟨w2.heap.size,2,none⟩=some (.slice (some ⟨w1.heap.size,0,none⟩) 16 16)∧w5.cell? ⟨bg,0,none⟩=some (.func (.func 111) #[] #[.pointer (some ⟨bp,0,none⟩),.pointer (some ⟨bl,0,none⟩),.pointer (some ⟨bg,0,none⟩)])):=⟨(bb5.cell (p:=⟨w2.heap.size,2,none⟩) hnbw).trans SX.out.1,(bb5.cell (p:=⟨bg,0,none⟩) hbgw).trans SX.out.2⟩
            have S6:Hid ((w5.setCell ⟨w1.heap.size,xn,none⟩ (.pointer (some ⟨b9,0,none⟩))).cell? ⟨w2.heap.size,2,none⟩=some (.slice (some ⟨w1.heap.size,0,none⟩) 16 16)∧(w5.setCell ⟨w1.heap.size,xn,none⟩ (.pointer (some ⟨b9,0,none⟩))).cell? ⟨bg,0,none⟩=some (.func (.func 111) #[] #[.pointer (some ⟨bp,0,none⟩),.pointer (some ⟨bl,0,none⟩),.pointer (some ⟨bg,0,none⟩)])):=⟨(World.cell?_of_block (Below.heap_setCell _ _ _ _ (by simp only;omega))).trans S5.out.1,(World.cell?_of_block (Below.heap_setCell _ _ _ _ (by simp only;omega))).trans S5.out.2⟩
            have O5:=zc (zan HO.out bb5)
            obtain⟨x5,hx5⟩:∃ o,w5.cell? ⟨w1.heap.size,xn,none⟩=some o:=by rw[O5.out.cellAt xn (by omega)];exact⟨_,List.getElem?_eq_getElem (by omega)⟩
            have f5:=O5.out.frozenAt xn
            have HB5:Hid (Below wr.heap.size wr w5):=bb5
            clear ht5 bb5 bb5'))
         all_goals
          have ST:=O5.out.stored xn (.pointer (some ⟨b9,0,none⟩))
          have O6:Hid ((w5.setCell ⟨w1.heap.size,xn,none⟩ (.pointer (some ⟨b9,0,none⟩))).ownsRow w.heap.size 145 1 (.slice (some ⟨w1.heap.size,0,none⟩) 16 16) 16 (qs.set xn (.pointer (some ⟨b9,0,none⟩)))):=ST.1
          have hnoth:∀ k,k≠w1.heap.size→(w5.setCell ⟨w1.heap.size,xn,none⟩ (.pointer (some ⟨b9,0,none⟩))).heap[k]? = w5.heap[k]? := fun k hk=>Below.heap_setCell _ _ _ _ hk
          have N6:Hid ((w5.setCell ⟨w1.heap.size,xn,none⟩ (.pointer (some ⟨b9,0,none⟩))).heap[w2.heap.size]? = some (zdn (endV es) w1.heap.size)):=(hnoth _ (by omega)).trans ((HB5.out.block _ hnbw).trans HN.out)
          have T6:Hid (∀ d,d<16→IsTrie (w5.setCell ⟨w1.heap.size,xn,none⟩ (.pointer (some ⟨b9,0,none⟩))) (w2.heap.size+1) f ((qs.set xn (.pointer (some ⟨b9,0,none⟩))).getD d undef) (grp d (es.take b))):=by
           intro d hd
           refine IsTrie.kept (w:=w5) (fun k h1 h2=>hnoth k (by omega)) f _ _ ?_
           by_cases hdx:d=xn
           · subst hdx
             rw[show (qs.set d (.pointer (some ⟨b9,0,none⟩))).getD d undef=.pointer (some ⟨b9,0,none⟩) by rw[List.getD_eq_getElem?_getD,List.getElem?_set_self (by omega)];rfl]
             have:=T5.out
             rw[HXN.out] at this
             exact IsTrie.mono (by omega) _ _ _ this
           · rw[show (qs.set xn (.pointer (some ⟨b9,0,none⟩))).getD d undef=qs.getD d undef by rw[List.getD_eq_getElem?_getD,List.getElem?_set_ne (fun e=>hdx e.symm),←List.getD_eq_getElem?_getD],HG2.out d (by have:=HXN.out;omega)]
             exact (HTR.out d hd).later HB5.out
          have B6:Below w.heap.size w (w5.setCell ⟨w1.heap.size,xn,none⟩ (.pointer (some ⟨b9,0,none⟩))):=(hbel.trans (HB5.out.mono hbel.size)).setCell (p:=⟨w1.heap.size,xn,none⟩) hwg _
          clear ST hnoth O5 T5
          go_wp2
          go_roundw
          case rel=>exact⟨b,fb,qs.set xn (.pointer (some ⟨b9,0,none⟩)),hfb,hbl,rfl,by rw[List.length_set];exact hqs,HNX,HNE2,O6,N6,T6,B6⟩
          case measure=>(have h8:=hfa.out;have h9:=hfb.out;simp[intOf];omega)
    · have hfa':=hfa.out
      have z1:¬ (fa:Int)<(e:Int):=by omega
      obtain rfl:a=es.length:=by omega
      obtain⟨qa,hqa1,hqa2,hqa3⟩:=zrz HO.out hqs
      have HTF:Hid (∀ d,d<16→IsTrie wo w.heap.size f (qa.getD d undef) (grp d es)):=fun d hd=>by
       have:=HTR.out d hd
       rw[List.take_length] at this
       rw[hqa3]
       exact IsTrie.mono (by omega) _ _ _ this
      have HQ:Hid (wo.heap[w1.heap.size]? = some (.cells qa 145 (0,0))∧qa.size=16):=⟨hqa1,hqa2⟩
      clear hqa1 hqa2 hqa3 HTR HO hfa'
      go_wp2
      go_ret
      exact⟨_,rfl,by omega,_,hwg,HN.out,qa,HQ.out.1,HQ.out.2,fun d hd=>by have:=HTF.out d hd;rw[Array.getD_eq_getD_getElem?] at this;exact this,hbel⟩
theorem za42 (l:List UInt8):∀ x∈nibs l,x.toNat<16:=by
 intro x hx
 simp only[nibs,List.mem_flatMap,List.mem_cons,List.not_mem_nil,or_false] at hx
 obtain⟨b,_,h⟩:=hx
 have hb:=b.toNat_lt
 rcases h with rfl | rfl
 · rw[UInt8.toNat_div];show b.toNat / 16<16;omega
 · rw[UInt8.toNat_mod];show b.toNat % 16<16;omega
theorem zlt (bp bl bg gp cp gl off cl:Nat) (ps:List za) (hfit:fitP ps):∀ f:Nat,zls f bp bl bg gp cp gl off cl ps
 | 0 => fun i e deep w hie he hd hr hf hE => by
   have hpl:=zip ps i e deep he
   obtain⟨g,h⟩:=zit hf (fun h0=>by rw[h0] at hpl;simp at hpl;omega)
   omega
 | f + 1 => fun i e deep w hie he hd hr hf hE => by
   have hpl:=zip ps i e deep he
   have hk24:∀ k (hk:k<ps.length),(nibs ps[k].1).length≤24:=fun k hk=>by
    have:=(hfit.2 _ (List.getElem_mem hk)).1
    rw[zl8];omega
   by_cases h1:e=i+1
   · subst h1
     have hi:i<ps.length:=by omega
     refine (za3s f bp bl bg gp cp gl off cl ps i deep w hi hfit.1 (hd i hi (Nat.le_refl _) (by omega)) (hk24 i hi) hE).mono ?_
     rintro r w' ⟨b,rfl,h2,h3,h4⟩
     refine⟨b,rfl,.inr ⟨b,h3,rfl,.inl ⟨_,?_,h2⟩⟩,h4⟩
     have h0:0<(piece ps i (i+1) deep).length:=by omega
     have e0:=piece_at ps i (i+1) deep 0 h0 he (by omega)
     simp only[Nat.add_zero] at e0
     obtain⟨x,hx⟩:=List.length_eq_one_iff.1 (show (piece ps i (i+1) deep).length=1 by omega)
     rw[hx]
     congr 1
     have:(piece ps i (i+1) deep)[0]=x:=by simp[hx]
     rw[←this,e0]
   · have h2:2≤(piece ps i e deep).length:=by omega
     by_cases hc:0<zo (piece ps i e deep)
     · refine (za3t f bp bl bg gp cp gl off cl ps (zlt bp bl bg gp cp gl off cl ps hfit f) i e deep w (by omega) he hfit.1 hd hk24 hr hf hc hE).mono ?_
       rintro r w' ⟨b,g,q,rfl,hb,hg,k1,k2,k3,k4⟩
       exact⟨b,rfl,.inr ⟨b,hb,rfl,.inr (.inl ⟨h2,hc,g,q,hg,k1,k2,k3⟩)⟩,k4⟩
     · refine (za41 f bp bl bg gp cp gl off cl ps (zlt bp bl bg gp cp gl off cl ps hfit f) i e deep w (by omega) he hfit.1 hd hk24 (fun k hk=>za42 _) hr hf hc hE).mono ?_
       rintro r w' ⟨b,g,qs,rfl,hb,hg,k1,k2,k3,k4,k5⟩
       exact⟨b,rfl,.inr ⟨b,hb,rfl,.inr (.inr ⟨h2,hc,g,qs,hg,k1,k2,k3,k4⟩)⟩,k5⟩
theorem zs0:∀ a b:List UInt8,Op.bytesLess a b=true→Op.bytesLess (nibs a) (nibs b)=true
 | _,[],h=>by rw[ziv] at h;cases h
 | [],y :: ys,_=>by rw[zei];rfl
 | x :: xs, y :: ys, h => by
   rw[zey] at h
   rw[zei,zei,zey,zey]
   simp only[Bool.or_eq_true,Bool.and_eq_true,decide_eq_true_eq] at h ⊢
   rcases h with h | ⟨h,h'⟩
   · have h1:x.toNat<y.toNat:=h
     by_cases hq:x.toNat / 16<y.toNat / 16
     · left
       show (x / 16).toNat<(y / 16).toNat
       rw[UInt8.toNat_div,UInt8.toNat_div];exact hq
     · right
       refine⟨UInt8.toNat_inj.1 ?_,.inl ?_⟩
       · rw[UInt8.toNat_div,UInt8.toNat_div];show x.toNat / 16=y.toNat / 16;omega
       · show (x % 16).toNat<(y % 16).toNat
         rw[UInt8.toNat_mod,UInt8.toNat_mod];show x.toNat % 16<y.toNat % 16;omega
   · right
     exact⟨by rw[h],.inr ⟨by rw[h],zs0 xs ys h'⟩⟩
theorem zlu (ps:List za):piece ps 0 ps.length 0=esOf ps:=by
 have h1:subE (esOf ps) 0 ps.length=esOf ps:=by rw[subE,List.drop_zero,Nat.sub_zero,List.take_of_length_le (by rw[zeu];exact Nat.le_refl _)]
 rw[piece,h1]
 simp[cutE]
theorem za43 (l:List UInt8) (w:World) (hl:l.length≤1000) :
 Calls Tryz.prog 110 #[.string ⟨l.toArray⟩] w fun e w'=>e=.returned (.string ⟨(nibs l).toArray⟩)∧Below w.heap.size w w':=by
 have h:=zno ⟨l.toArray⟩ w (by simp[ByteArray.size];omega)
 have e1:(ByteArray.mk l.toArray).data.toList=l:=by simp
 rw[e1] at h
 exact h
theorem one_set {w:World} {b:Nat} {u v:Value} {t:TypeId} (h:w.heap[b]? = some (.cells #[u] t (0,0))):(w.setCell ⟨b,0,none⟩ v).heap[b]? = some (.cells #[v] t (0,0)):=by
 have hlt:=lt_of_block h
 have h':w.heap[b]=.cells #[u] t (0,0):=by simpa [Array.getElem?_eq_getElem hlt] using h
 show (w.heap.modify b _)[b]? = _
 rw[Array.getElem?_eq_getElem (by simpa using hlt),Array.getElem_modify_self,h']
 rfl
theorem za44 (gl off cl : Nat) (ps : List za) (w : World) (hfit : fitP ps) (h0 : 0 < ps.length) (hr : zbx (esOf ps)) (hc : ∀ j (h : j < ps.length), w.cell? ⟨gl, off + j * 2, none⟩ = some (.string ⟨ps[j].1.toArray⟩) ∧ w.cell? ⟨gl, off + j * 2 + 1, none⟩ = some (.string ⟨ps[j].2.toArray⟩)) :
 Calls Tryz.prog 86 #[.slice (some ⟨gl,off,none⟩) ps.length cl] w fun r w'=>∃ b:Nat,r=.returned (.pointer (some ⟨b,0,none⟩))∧IsTrie w' w.heap.size 60 (.pointer (some ⟨b,0,none⟩)) (esOf ps)∧Below w.heap.size w w':=by
 obtain⟨j0,hj0,hy0,hy1,hy2⟩:=info_parts zgr
 have hl:=hfit.1
 have hglt:=World.block_lt_of_cell? w _ (hc 0 h0).1
 simp only at hglt
 have HC:Hid (∀ j (h:j<ps.length),w.cell? ⟨gl,off+j*2,none⟩=some (.string ⟨ps[j].1.toArray⟩)∧w.cell? ⟨gl,off+j*2+1,none⟩=some (.string ⟨ps[j].2.toArray⟩)):=hc
 have HK:Hid (∀ j (h:j<ps.length),ps[j].1.length≤12):=fun j h=>(hfit.2 _ (List.getElem_mem h)).1
 have HG:Hid (∀ bp bl bg gp cp W,Env W bp bl bg gp cp gl off cl ps→Calls Tryz.prog 111 #[.int .i64 0,.int .i64 (ps.length:Int),.int .i64 0,.pointer (some ⟨bp,0,none⟩),.pointer (some ⟨bl,0,none⟩),.pointer (some ⟨bg,0,none⟩)] W fun r w'=>∃ b:Nat,r=.returned (.pointer (some ⟨b,0,none⟩))∧IsTrie w' W.heap.size 60 (.pointer (some ⟨b,0,none⟩)) (esOf ps)∧Below W.heap.size W w'):=fun bp bl bg gp cp W hE=>by
  have:=zlt bp bl bg gp cp gl off cl ps hfit 60 0 ps.length 0 W h0 (Nat.le_refl _) (fun k hk _ _=>Nat.zero_le _) (by rw[zlu];exact hr) (by rw[zlu];exact zl9 hfit) hE
  rw[zlu] at this
  exact this
 have Ba:Below w.heap.size w ((w.alloc (.cells #[.slice (some ⟨gl,off,none⟩) ps.length cl] 54)).alloc (.cells #[.slice none 0 0] 138)):=((Below.refl _ _).alloc (Nat.le_refl _) _).alloc (by simp) _
 have N1:Hid (((w.alloc (.cells #[.slice (some ⟨gl,off,none⟩) ps.length cl] 54)).alloc (.cells #[.slice none 0 0] 138)).heap[w.heap.size]? = some (.cells #[.slice (some ⟨gl,off,none⟩) ps.length cl] 54 (0,0))):=by
  rw[Hid,Below.heap_alloc _ _ _ (by simp)];exact heap_alloc_new _ _
 have N2:Hid (((w.alloc (.cells #[.slice (some ⟨gl,off,none⟩) ps.length cl] 54)).alloc (.cells #[.slice none 0 0] 138)).heap[w.heap.size+1]? = some (.cells #[.slice none 0 0] 138 (0,0))):=by
  have:=heap_alloc_new (w.alloc (.cells #[.slice (some ⟨gl,off,none⟩) ps.length cl] 54)) (.cells #[.slice none 0 0] 138)
  rw[Hid];simpa using this
 have c0:=(one_cell N1.out).1
 clear hc hr hfit
 go_enter Tryz.func86,Tryz.ntmps86
 go_wp2
 go_loopw [9] (fun i wr=>∃ (j:Nat) (v:Value),j≤ps.length∧i=.int .i64 (j:Int)∧Hid (wr.heap[w.heap.size]? = some (.cells #[.slice (some ⟨gl,off,none⟩) ps.length cl] 54 (0,0)))∧Hid (wr.heap[w.heap.size+1]? = some (.cells #[v] 138 (0,0)))∧Hid (wr.ownsRow (w.heap.size+2) 9 1 v j (zh ((esOf (ps.take j)).map (·.1))))∧Below w.heap.size w wr) (fun i _=>ps.length - (intOf i).toNat)
 case atStart=>exact⟨0,.slice none 0 0,Nat.zero_le _,rfl,N1,N2,World.ownsRow_nil _ _ _ _,Ba⟩
 case round =>
  obtain⟨j,v,hj,rfl,HL,HP,HO,hbel⟩:=hrel
  have hsz:=hbel.size
  clear N1 N2 Ba c0
  by_cases hlt:j<ps.length
  · have hj1 : (j : Int) < (ps.length : Int) := by omega
    have hj0':(0:Int)≤(j:Int):=by omega
    have d1:=(hbel.cell (p:=⟨gl,off+j*2,none⟩) hglt).trans (HC.out j hlt).1
    have d2:=(hbel.cell (p:=⟨gl,off+j*2+1,none⟩) hglt).trans (HC.out j hlt).2
    have cp0:=(one_cell HP.out).1
    obtain⟨k,hk⟩:∃ k,k=ps[j].1:=⟨_,rfl⟩
    obtain⟨u,hu⟩:∃ u,u=ps[j].2:=⟨_,rfl⟩
    have hkl:=HK.out j hlt
    rw[←hk] at d1 hkl
    rw[←hu] at d2
    have HX:Hid (esOf (ps.take (j+1))=esOf (ps.take j) ++ [(nibs k,u)]):=by rw[Hid,hk,hu];exact zr1 ps j hlt
    clear hk hu
    obtain⟨a1,m1,c1,rfl⟩:=zfi HO.out
    have hvl:∀ q,(Value.slice a1 m1 c1).ownBlock=some q→w.heap.size+2≤q∧q<wr.heap.size:=fun q hq=>HO.out.lt q hq
    have hpb:=lt_of_block HP.out
    have KN:=za43 k (wr.alloc (.cells #[.string ⟨k.toArray⟩,.string ⟨u.toArray⟩] 103)).drew (by omega)
    have hy1':(wr.alloc (.cells #[.string ⟨k.toArray⟩,.string ⟨u.toArray⟩] 103)).heap.size=wr.heap.size+1:=by simp
    have BY:Below wr.heap.size wr (wr.alloc (.cells #[.string ⟨k.toArray⟩,.string ⟨u.toArray⟩] 103)):=(Below.refl _ _).alloc (Nat.le_refl _) _
    have OY:=zc (zan HO.out BY)
    have cpy:=(BY.cell (p:=⟨w.heap.size+1,0,none⟩) hpb).trans cp0
    obtain⟨x,hx⟩:∃ x,x=nibs k:=⟨_,rfl⟩
    rw[←hx] at KN HX
    clear hx
    go_wp2_with fail
    go_region_law (first
     | (go_simp
        go_at_call 110
        refine KN.mono ?_
        rintro r w3 ⟨rfl,b3'⟩
        have b3:Below (wr.alloc (.cells #[.string ⟨k.toArray⟩,.string ⟨u.toArray⟩] 103)).heap.size (wr.alloc (.cells #[.string ⟨k.toArray⟩,.string ⟨u.toArray⟩] 103)) w3:=⟨b3'.os,b3'.tape,b3'.output,b3'.size,b3'.block⟩
        have C3:Hid (Below wr.heap.size wr w3):=BY.trans (b3.mono BY.size)
        have s3:wr.heap.size<w3.heap.size:=(by have:=b3.size;omega)
        have CA:Hid (Below wr.heap.size wr (w3.alloc (.cells #[.string ⟨x.toArray⟩] 9))):=C3.out.alloc (by omega) _
        have OA:Hid ((w3.alloc (.cells #[.string ⟨x.toArray⟩] 9)).ownsRow (w.heap.size+2) 9 1 (.slice a1 m1 c1) j (zh ((esOf (ps.take j)).map (·.1)))):=zan HO.out CA.out
        have NA:Hid (∀ q u,[Value.string ⟨x.toArray⟩][q]? = some u→(w3.alloc (.cells #[.string ⟨x.toArray⟩] 9)).cell? ((⟨w3.heap.size,0,none⟩:Addr).add q)=some u):=World.news_of_block (cs:=#[.string ⟨x.toArray⟩]) (t:=9) (fr:=(0,0)) (heap_alloc_new w3 _)
        have ZA:Hid (w.heap.size+2≤(w3.alloc (.cells #[.string ⟨x.toArray⟩] 9)).heap.size):=(by rw[Hid];simp;omega)
        have ca3:=(C3.out.cell (p:=⟨w.heap.size+1,0,none⟩) hpb).trans cp0
        have ca4:=(CA.out.cell (p:=⟨w.heap.size+1,0,none⟩) hpb).trans cp0
        clear b3 b3')
     | (refine step_append_lies _ rfl (.tmp 13) (.tmp 17) 138 rfl (w.heap.size + 2) 9 j0 (.string ⟨#[]⟩) 1 16 Tryz.underlying138 hj0 hy0 hy1 hy2 rfl (by decide) (.slice a1 m1 c1) j (zh ((esOf (ps.take j)).map (·.1))) (by simp [Act.eval]) OA.out ⟨w3.heap.size, 0, none⟩ 1 1 [.string ⟨x.toArray⟩] (by simp [Act.eval]) rfl NA.out (by simp [Value.oneCell']) (by omega) (by unfold maxLen; omega) (by omega) ZA.out (w3.heap.size + 1) (by simp) ?_
        intro g5 cap5 w5 hown5 hgrow5 hat5 hlt5
        have K5:∀ b,b<wr.heap.size→(Value.slice a1 m1 c1).ownBlock≠some b→w5.heap[b]? = wr.heap[b]? := (fun b h1 h2=>(hgrow5.block b (by simp;omega) (fun e=>h2 e.symm)).trans (CA.out.block b h1))
        have P5:w5.heap[w.heap.size+1]? = some (.cells #[.slice a1 m1 c1] 138 (0,0)):=(K5 _ hpb (fun e=>by have:=hvl _ e;omega)).trans HP.out
        have cb5:=(one_cell P5).1
        have fb5:=(one_cell P5).2 0
        have HL5:Hid ((w5.setCell ⟨w.heap.size+1,0,none⟩ (.slice (some ⟨g5,0,none⟩) (j+1) cap5)).heap[w.heap.size]? = some (.cells #[.slice (some ⟨gl,off,none⟩) ps.length cl] 54 (0,0))):=((Below.heap_setCell _ _ _ _ (by simp only;omega)).trans ((K5 _ (by omega) (fun e=>by have:=hvl _ e;omega)).trans HL.out))
        have HP5:Hid ((w5.setCell ⟨w.heap.size+1,0,none⟩ (.slice (some ⟨g5,0,none⟩) (j+1) cap5)).heap[w.heap.size+1]? = some (.cells #[.slice (some ⟨g5,0,none⟩) (j+1) cap5] 138 (0,0))):=one_set P5
        have HO5:Hid ((w5.setCell ⟨w.heap.size+1,0,none⟩ (.slice (some ⟨g5,0,none⟩) (j+1) cap5)).ownsRow (w.heap.size+2) 9 1 (.slice (some ⟨g5,0,none⟩) (j+1) cap5) (j+1) (zh ((esOf (ps.take (j+1))).map (·.1)))):=(by
         rw[Hid,HX.out,List.map_append]
         have e1:zh ((esOf (ps.take j)).map (·.1) ++ [(x,u)].map (·.1))=zh ((esOf (ps.take j)).map (·.1)) ++ [.string ⟨x.toArray⟩]:=zc0 _ _
         rw[e1]
         exact zdm hown5 (za3x _ _ _) (fun q hq e=>by have:=(hown5.lt q hq).1;simp at e;omega))
        have B5:Hid (Below w.heap.size w (w5.setCell ⟨w.heap.size+1,0,none⟩ (.slice (some ⟨g5,0,none⟩) (j+1) cap5))):=((hbel.trans (CA.out.mono hsz)).grown hgrow5 (by simp;omega) (fun q hq=>by have:=(hvl q hq).1;omega)).setCell (p:=⟨w.heap.size+1,0,none⟩) (by simp only;omega) _
        clear hown5 hgrow5 hat5 K5 P5))
    all_goals
     go_wp2
     go_roundw
     case rel=>exact⟨j+1,_,by omega,by go_num,HL5,HP5,HO5,B5.out⟩
     case measure=>simp[intOf];omega
  · obtain rfl:j=ps.length:=by omega
    have hj1:¬ (ps.length:Int)<(ps.length:Int):=by omega
    have ho:=HO.out
    rw[List.take_length] at ho
    obtain⟨gp,cp,rfl⟩:∃ gp cp,v=.slice (some ⟨gp,0,none⟩) ps.length cp:=by
     rcases ho.2 with ⟨_,h9⟩ | ⟨g9,c9,_,e9,_⟩
     · omega
     · exact⟨g9,c9,e9⟩
    have hW:Below wr.heap.size wr (wr.alloc (.cells #[(.func (.func 111) #[] #[.pointer (some ⟨w.heap.size+1,0,none⟩),.pointer (some ⟨w.heap.size,0,none⟩),.pointer (some ⟨wr.heap.size,0,none⟩)])] 174)):=(Below.refl _ _).alloc (Nat.le_refl _) _
    have BW:Below w.heap.size w (wr.alloc (.cells #[(.func (.func 111) #[] #[.pointer (some ⟨w.heap.size+1,0,none⟩),.pointer (some ⟨w.heap.size,0,none⟩),.pointer (some ⟨wr.heap.size,0,none⟩)])] 174)):=hbel.trans (hW.mono hsz)
    have HE:Env (wr.alloc (.cells #[(.func (.func 111) #[] #[.pointer (some ⟨w.heap.size+1,0,none⟩),.pointer (some ⟨w.heap.size,0,none⟩),.pointer (some ⟨wr.heap.size,0,none⟩)])] 174)) (w.heap.size+1) w.heap.size wr.heap.size gp cp gl off cl ps :=
     ⟨(hW.block _ (lt_of_block HP.out)).trans HP.out, (hW.block _ (lt_of_block HL.out)).trans HL.out, heap_alloc_new _ _, fun (q : Nat) hq => by
       have h1:=(zan ho hW).cellAt q (by omega)
       rw[h1]
       simp[zh,esOf,hq],fun q hq=>(BW.cell (p:=⟨gl,off+q*2+1,none⟩) hglt).trans (HC.out q hq).2⟩
    have KG:=HG.out _ _ _ _ _ _ HE
    have q1:=(one_cell HE.pairs).1
    have q2:=(one_cell HE.self).1
    have hlb:=lt_of_block HL.out
    have l1:=(one_cell HL.out).1
    clear HE HO ho HC HG HK
    go_wp2_with fail
    refine KG.mono ?_
    rintro r w5 ⟨b5,rfl,hT5,hB5⟩
    clear KG q1 q2
    have hT:IsTrie w5 w.heap.size 60 (.pointer (some ⟨b5,0,none⟩)) (esOf ps):=IsTrie.mono (by have:=BW.size;omega) _ _ _ hT5
    have hB:Below w.heap.size w w5:=BW.trans (hB5.mono BW.size)
    clear hT5 hB5
    dsimp only
    go_wp2
    go_ret
    exact⟨b5,rfl,hT,hB⟩
end Go.Proofs.YtppljdnbhoeeoaaGreatDoor
