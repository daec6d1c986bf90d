/-
 Texts that are laid as one: Hash, HashN, HashT, HashO.
-/
import Derived.Test.YtppljdnbhoeeoaaGreatDoorTrieAll
namespace Go.Proofs.YtppljdnbhoeeoaaGreatDoor
open Go.RowKit
set_option linter.unusedVariables false
set_option maxHeartbeats 4000000
set_option maxRecDepth 100000
def zd1 (ns:List za):List Value:=ns.flatMap fun e=>[.string ⟨e.1.toArray⟩,.string ⟨e.2.toArray⟩]
structure HEnv (w:World) (bn bh:Nat) (v:Value) (ns:List za) (lim:Nat):Prop where
 box:w.heap[bn]? = some (.cells #[v] 31 (0,0))
 self:w.heap[bh]? = some (.cells #[.func (.func 108) #[] #[.pointer (some ⟨bh,0,none⟩),.pointer (some ⟨bn,0,none⟩)]] 169 (0,0))
 row:w.ownsRow lim 59 2 v ns.length (zd1 ns)
theorem zvc (a b:List za):zd1 (a ++ b)=zd1 a ++ zd1 b:=by simp[zd1]
def zha (w0 : World) (bn bh lim : Nat) (p : Value) (out : List za) : Prop :=
 ∀ (w : World) (v : Value) (ns : List za), Below w0.heap.size w0 w → HEnv w bn bh v ns lim → ns.length + out.length ≤ 10000 →
   Calls Tryz.prog 108 #[p,.pointer (some ⟨bh,0,none⟩),.pointer (some ⟨bn,0,none⟩)] w fun r w' =>
    r=.returned (.string ⟨(za0 out).toArray⟩)∧Below w0.heap.size w0 w'∧w.heap.size≤w'.heap.size ∧
    ∃ v', HEnv w' bn bh v' (ns ++ out) lim ∧ (∀ b, v'.ownBlock = some b → v.ownBlock = some b ∨ w.heap.size ≤ b) ∧
      ∀ b,b<w.heap.size→b≠bn→v.ownBlock≠some b→w'.heap[b]? = w.heap[b]?
theorem ze0 {w w':World} {base e size n:Nat} {v:Value} {xs:List Value} (h:w.ownsRow base e size v n xs) (hk:∀ q,v.ownBlock=some q→w'.heap[q]? = w.heap[q]?):w'.ownsRow base e size v n xs:=by
 refine⟨h.1,?_⟩
 rcases h.2 with hn | ⟨g,cap,cur,rfl,hb,hgg,rest⟩
 · exact .inl hn
 · exact .inr ⟨g,cap,cur,rfl,hb,(hk g rfl).trans hgg,rest⟩
structure HInv (w0 w:World) (bn bh lim:Nat) (v0:Value) (ns:List za) (outs:List (List za)) (j:Nat) (u v:Value) (wr:World):Prop where
 env:HEnv wr bn bh v (ns ++ (outs.take j).flatten) lim
 row:wr.ownsRow w.heap.size 9 1 u j (zh ((outs.take j).map za0))
 below:Below w0.heap.size w0 wr
 size:w.heap.size≤wr.heap.size
 own:∀ b,v.ownBlock=some b→v0.ownBlock=some b∨w.heap.size≤b
 kept:∀ b,b<w.heap.size→b≠bn→v0.ownBlock≠some b→wr.heap[b]? = w.heap[b]?
 apart:∀ b,v.ownBlock=some b→u.ownBlock≠some b
theorem HEnv.later {w w':World} {bn bh lim:Nat} {v:Value} {ns:List za} (h:HEnv w bn bh v ns lim) (h1:w'.heap[bn]? = w.heap[bn]?) (h2:w'.heap[bh]? = w.heap[bh]?) (hk:∀ q,v.ownBlock=some q→w'.heap[q]? = w.heap[q]?):HEnv w' bn bh v ns lim :=
 ⟨h1.trans h.box,h2.trans h.self,ze0 h.row hk⟩
theorem HInv.next {w0 w:World} {bn bh lim:Nat} {v0:Value} {ns:List za} {outs:List (List za)} {j:Nat} {u v:Value} {wr:World} (hI:HInv w0 w bn bh lim v0 ns outs j u v wr)
 (hj:j<outs.length) (hbn:bn<w.heap.size) (hbh:bh<w.heap.size) (hw0:w0.heap.size≤w.heap.size)
 {w3:World} {v3:Value} (hb3:Below w0.heap.size w0 w3) (hs3:wr.heap.size≤w3.heap.size) (hE3:HEnv w3 bn bh v3 (ns ++ (outs.take j).flatten ++ outs[j]) lim)
 (ho3:∀ b,v3.ownBlock=some b→v.ownBlock=some b∨wr.heap.size≤b) (hk3:∀ b,b<wr.heap.size→b≠bn→v.ownBlock≠some b→w3.heap[b]? = wr.heap[b]?)
 {o:Obj} {w5:World} {u5:Value} (hg5:(w3.alloc o).grownBy w5 u.ownBlock) (hu5:∀ b,u5.ownBlock=some b→u.ownBlock=some b∨b=(w3.alloc o).heap.size)
 (hr5:w5.ownsRow w.heap.size 9 1 u5 (j+1) (zh ((outs.take j).map za0) ++ [.string ⟨(za0 outs[j]).toArray⟩])) :
 HInv w0 w bn bh lim v0 ns outs (j+1) u5 v3 w5:=by
 have hul:=fun q (hq:u.ownBlock=some q)=>hI.row.lt q hq
 have hsz:=hI.size
 have e1:=(List.take_append_getElem hj).symm
 have K:∀ b,b<w3.heap.size→u.ownBlock≠some b→w5.heap[b]? = w3.heap[b]? := fun b h1 h2 =>
  (hg5.block b (by simp;omega) (fun e=>h2 e.symm)).trans (heap_alloc_old w3 o h1)
 have hsz5:=hg5.size
 simp only[World.size_alloc] at hsz5
 refine⟨?_,?_,?_,by omega,?_,?_,?_⟩
 · rw[e1,List.flatten_append,List.flatten_singleton,←List.append_assoc]
   refine hE3.later (K bn (by omega) fun e=>?_) (K bh (by omega) fun e=>?_) fun q hq=>K q (hE3.row.lt q hq).2 fun e=>?_
   · have:=hul _ e;omega
   · have:=hul _ e;omega
   · rcases ho3 q hq with h | h
     · exact hI.apart q h e
     · have:=hul _ e;omega
 · rw[e1,List.map_append]
   have:=hr5
   rw[show zh ((outs.take j).map za0 ++ [outs[j]].map za0)=zh ((outs.take j).map za0) ++ [.string ⟨(za0 outs[j]).toArray⟩] from zc0 _ _]
   exact this
 · refine ((hb3.alloc (by omega) o)).grown hg5 (by simp;omega) fun q hq=>?_
   have:=hul q hq;omega
 · intro b hb
   rcases ho3 b hb with h | h
   · exact hI.own b h
   · exact .inr (by omega)
 · intro b h1 h2 h3
   refine (K b (by omega) fun e=>?_).trans ((hk3 b (by omega) h2 fun e=>?_).trans (hI.kept b h1 h2 h3))
   · have:=hul _ e;omega
   · rcases hI.own b e with h | h
     · exact h3 h
     · omega
 · intro b hb e
   have hl:=(hE3.row.lt b hb).2
   rcases hu5 b e with h | h
   · rcases ho3 b hb with h' | h'
     · exact hI.apart b h' h
     · have:=hul _ h;omega
   · simp at h;omega
theorem zvd (outs:List (List za)) (j:Nat) (h:j<outs.length):(outs.take j).flatten.length+outs[j].length≤outs.flatten.length:=by
 have e:outs.flatten=(outs.take j).flatten ++ (outs[j] ++ (outs.drop (j+1)).flatten):=by
  rw[←List.flatten_cons,←List.flatten_append,←List.drop_eq_getElem_cons h,List.take_append_drop]
 rw[e,List.length_append,List.length_append];omega
theorem HInv.done {w0 w:World} {bn bh lim:Nat} {v0:Value} {ns:List za} {outs:List (List za)} {u v:Value} {wr:World} (hI:HInv w0 w bn bh lim v0 ns outs outs.length u v wr)
 (hbn:bn<w.heap.size) (hbh:bh<w.heap.size) (hne:bh≠bn) (hbl:bn<lim) (hhl:bh<lim) (hw0:w0.heap.size≤w.heap.size) (hn0:w0.heap.size≤bn) (hl0:w0.heap.size≤lim)
 {t:List UInt8} {w3:World} (h3:Below wr.heap.size wr w3) {o:Obj} {w5:World} {v6:Value} (hg5:(w3.alloc o).grownBy w5 v.ownBlock) (hv6:∀ b,v6.ownBlock=some b→v.ownBlock=some b∨b=(w3.alloc o).heap.size)
 (hr5:w5.ownsRow lim 59 2 v6 ((ns ++ outs.flatten).length+1) (zd1 (ns ++ outs.flatten) ++ [.string ⟨(sumL t).toArray⟩,.string ⟨t.toArray⟩])) :
 Below w0.heap.size w0 (w5.setCell ⟨bn,0,none⟩ v6)∧w.heap.size≤(w5.setCell ⟨bn,0,none⟩ v6).heap.size ∧
  ∃ v', HEnv (w5.setCell ⟨bn, 0, none⟩ v6) bn bh v' (ns ++ (outs.flatten ++ [zbi t])) lim ∧ (∀ b, v'.ownBlock = some b → v0.ownBlock = some b ∨ w.heap.size ≤ b) ∧
    ∀ b,b<w.heap.size→b≠bn→v0.ownBlock≠some b→(w5.setCell ⟨bn,0,none⟩ v6).heap[b]? = w.heap[b]? := by
 have hE:=hI.env
 rw[List.take_length] at hE
 have hsz:=hI.size
 have hs3:=h3.size
 have hsz5:=hg5.size
 simp only[World.size_alloc] at hsz5
 have hvl:=fun q (hq:v.ownBlock=some q)=>hE.row.lt q hq
 have K:∀ b,b<wr.heap.size→v.ownBlock≠some b→w5.heap[b]? = wr.heap[b]? := fun b h1 h2 =>
  (hg5.block b (by simp;omega) (fun e=>h2 e.symm)).trans ((heap_alloc_old w3 o (by omega)).trans (h3.block b h1))
 have P5:w5.heap[bn]? = some (.cells #[v] 31 (0,0)):=(K bn (by omega) fun e=>by have:=hvl _ e;omega).trans hE.box
 refine⟨?_,by simp;omega,v6,⟨one_set P5,?_,?_⟩,?_,?_⟩
 · exact (((hI.below.trans (h3.mono (by omega))).alloc (by omega) o).grown hg5 (by simp;omega) fun q hq=>by have:=hvl q hq;omega).setCell (p:=⟨bn,0,none⟩) (by simp only;omega) _
 · exact (Below.heap_setCell _ _ _ _ (by simp only;omega)).trans ((K bh (by omega) fun e=>by have:=hvl _ e;omega).trans hE.self)
 · have e1:ns ++ (outs.flatten ++ [zbi t])=(ns ++ outs.flatten) ++ [zbi t]:=by rw[List.append_assoc]
   rw[e1,zvc,List.length_append]
   exact ze0 hr5 fun q hq=>Below.heap_setCell _ _ _ _ (by have:=(hr5.lt q hq).1;simp only;omega)
 · intro b hb
   rcases hv6 b hb with h | h
   · exact hI.own b h
   · exact .inr (by simp at h;omega)
 · intro b h1 h2 h3'
   refine (Below.heap_setCell _ _ _ _ (by simp only;omega)).trans ((K b (by omega) fun e=>?_).trans (hI.kept b h1 h2 h3'))
   rcases hI.own b e with h | h
   · exact h3' h
   · omega
theorem znk (w0:World) (bn bh lim:Nat):zha w0 bn bh lim (.pointer none) []:=by
 intro w v ns hB hE hn
 go_enter Tryz.func108,Tryz.ntmps108
 go_wp2
 go_ret
 exact⟨rfl,hB,Nat.le_refl _,v,by rw[List.append_nil];exact hE,fun b h=>.inl h,fun b _ _ _=>rfl⟩
theorem zve {p:Prop} (h:p):Hid p:=h
theorem zjp (w0 : World) (bn bh lim b : Nat) (k : Int) (p x : List UInt8) (a : Option Addr) (n : Nat) (qs : Nat → Option Addr) (outs : List (List za)) (t : List UInt8)
 (hbn:w0.heap.size≤bn) (hbh:w0.heap.size≤bh) (hne:bh≠bn) (hbl:bn<lim) (hhl:bh<lim) (hlim:lim≤bn+1∨lim≤bh+1)
 (hb:w0.heap[b]? = some (.cells #[.int .i64 k,.string ⟨p.toArray⟩,.slice a n n,.string ⟨x.toArray⟩] 172 (0,0)))
 (hq:∀ j,j<n→∃ g,a=some ⟨g,0,none⟩∧w0.cell? ⟨g,j,none⟩=some (.pointer (qs j)))
 (hn:outs.length=n) (hn16:n≤16)
 (hk:∀ j (h:j<outs.length),zha w0 bn bh lim (.pointer (qs j)) outs[j])
 (ht:t.length≤1048576) (hT:Tab w0)
 (KT:∀ (W:World) (c:Option Addr) (cap:Nat),zt W c (outs.map za0)→Calls Tryz.prog 109 #[.agg #[.int .i64 k,.string ⟨p.toArray⟩,.slice c n cap,.string ⟨x.toArray⟩]] W fun e w'=>e=.returned (.string ⟨t.toArray⟩)∧Below W.heap.size W w') :
 zha w0 bn bh lim (.pointer (some ⟨b,0,none⟩)) (outs.flatten ++ [zbi t]):=by
 intro w v0 ns hB hE hcnt
 obtain⟨j0,hj0,hy0,hy1,hy2⟩:=info_parts zgr
 have hbnw:=lt_of_block hE.box
 have hbhw:=lt_of_block hE.self
 have hw0:=hB.size
 have hbw:=(hB.block _ (lt_of_block hb)).trans hb
 have HQ:Hid _:=hq
 have HK:Hid _:=hk
 have HT:Hid _:=KT
 have HN:Hid _:=hn
 have hc:∀ (i:Nat) (u:Value),(#[Value.int .i64 k,.string ⟨p.toArray⟩,.slice a n n,.string ⟨x.toArray⟩])[i]? = some u→w.cell? ⟨b,i,none⟩=some u:=by
  intro i u hu
  simp only[World.cell?,hbw]
  exact hu
 have c0:=hc 0 _ rfl
 have c1:=hc 1 _ rfl
 have c2:=hc 2 _ rfl
 have c3:=hc 3 _ rfl
 clear hc hq hk KT hn
 go_enter Tryz.func108,Tryz.ntmps108
 go_wp2
 go_loopw [5,17] (fun u i wr=>∃ (j:Nat) (v:Value),j≤n∧i=.int .i64 (j:Int)∧HInv w0 w bn bh lim v0 ns outs j u v wr) (fun _ i _=>n - (intOf i).toNat)
 case atStart=>exact⟨0,v0,Nat.zero_le _,rfl,⟨by simpa using hE,World.ownsRow_nil _ _ _ _,hB,Nat.le_refl _,fun b h=>.inl h,fun b _ _ _=>rfl,fun b h e=>by simp[Value.ownBlock] at e⟩⟩
 case round =>
  obtain⟨j,v,hj,rfl,hI⟩:=hrel
  clear c0 c1 c2 c3
  by_cases hlt:j<n
  · have hj1:(j:Int)<(n:Int):=by omega
    have hj0':(0:Int)≤(j:Int):=by omega
    have hlo:j<outs.length:=by rw[HN.out];exact hlt
    obtain⟨g,rfl,hcell⟩:=HQ.out j hlt
    have d1:=(hI.below.cell (p:=⟨g,j,none⟩) (World.block_lt_of_cell? w0 _ hcell)).trans hcell
    have s1:=(one_cell hI.env.self).1
    have KH:=HK.out j hlo wr v (ns ++ (outs.take j).flatten) hI.below hI.env (by have:=zvd outs j hlo;simp only[List.length_append,List.length_singleton] at hcnt ⊢;omega)
    obtain⟨a1,m1,c1,rfl⟩:=zfi hI.row
    go_wp2_with fail
    refine KH.mono ?_
    rintro r w3 ⟨rfl,hb3,hs3,v3,hE3,ho3,hk3⟩
    clear KH d1 s1
    have HR3:Hid (w3.ownsRow w.heap.size 9 1 (.slice a1 m1 c1) j (zh ((outs.take j).map za0))):=ze0 hI.row fun q hq=>hk3 q (hI.row.lt q hq).2 (fun e=>by have:=(hI.row.lt q hq).1;omega) (fun e=>hI.apart q e hq)
    obtain⟨y,hy⟩:∃ y,y=za0 outs[j]:=⟨_,rfl⟩
    have HY:Hid _:=hy
    rw[←hy]
    clear hy
    have hs3':=Nat.le_trans hI.size hs3
    dsimp only
    go_wp2_with (at_builtin;refine wpList_append_lies _ rfl _ _ 138 rfl w.heap.size 9 j0 (.string ⟨#[]⟩) 1 16 Tryz.underlying138 hj0 hy0 hy1 hy2 rfl (by decide) (.slice a1 m1 c1) j _ rfl (HR3.out.alloc _) ⟨w3.heap.size,0,none⟩ 1 1 [.string ⟨y.toArray⟩] rfl rfl (World.news_of_block (cs:=#[.string ⟨y.toArray⟩]) (t:=9) (fr:=(0,0)) (heap_alloc_new w3 _)) (by simp[Value.oneCell']) (by omega) (by unfold maxLen;omega) (by omega) (by simp;omega) (w3.heap.size+1) (by simp) ?_)
    intro g5 cap5 w5 hown5 hgrow5 hat5 hlt5
    have HI5:=hI.next hlo hbnw hbhw hw0 hb3 hs3 hE3 ho3 hk3 hgrow5 (u5:=.slice (some ⟨g5,0,none⟩) (j+1) cap5) (fun q hq=>by
     simp only[Value.ownBlock,Option.some.injEq] at hq
     subst hq
     rcases hat5 with h | h
     · exact .inl h
     · exact .inr (by simp;omega)) (by rw[←HY.out,List.map_take];exact hown5)
    clear hown5 hgrow5 hat5 hb3 hE3 ho3 hk3 hI
    go_wp2
    go_roundw
    case rel=>exact⟨j+1,_,by omega,by go_num,HI5⟩
    case measure=>simp[intOf];omega
  · obtain rfl : j = n := by omega
    have hj1:¬ (j:Int)<(j:Int):=by omega
    obtain⟨a1,m1,c1,rfl⟩:=zfi hI.row
    have hbr:=(hI.below.block _ (lt_of_block hb)).trans hb
    have hc:∀ (i:Nat) (u:Value),(#[Value.int .i64 k,.string ⟨p.toArray⟩,.slice a j j,.string ⟨x.toArray⟩])[i]? = some u→wr.cell? ⟨b,i,none⟩=some u:=by
     intro i u hu
     simp only[World.cell?,hbr]
     exact hu
    have c0:=hc 0 _ rfl
    have d1:=hc 1 _ rfl
    have c3:=hc 3 _ rfl
    clear hc
    have hru:=hI.row
    rw[←HN.out,List.take_length] at hru
    obtain⟨hm1,_,hst⟩:=zc8 hru
    rw[List.length_map,HN.out] at hm1
    subst hm1
    have KX:=HT.out wr.drew a1 c1 hst
    clear hru hst HT HQ HK
    go_wp2_with fail
    go_region_law (go_simp
                   go_at_call 109
                   refine KX.mono ?_
                   rintro r w2 ⟨rfl,b2'⟩
                   have b2:Below wr.heap.size wr w2:=⟨b2'.os,b2'.tape,b2'.output,b2'.size,b2'.block⟩
                   clear b2')
    all_goals
     have hlw:=(by omega)
     have KS:=zin t w2 ht ((hT.later hI.below).later b2)
     obtain⟨i0,hi0,hz0,hz1,hz2⟩:=info_parts zeq
     clear KX
     go_wp2_with fail
     refine KS.mono ?_
     rintro r w3 ⟨rfl,b3⟩
     have C3:=b2.trans (b3.mono b2.size)
     clear KS c0 d1 c3
     obtain⟨h9,hh9⟩:∃ h9,h9=sumL t:=⟨_,rfl⟩
     have HH:Hid _:=hh9
     rw[←hh9]
     clear hh9
     have hEr:=hI.env
     have hnl:outs.take m1=outs:=(by rw[←HN.out,List.take_length])
     rw[hnl] at hEr
     have hE3:=hEr.later (C3.block _ (lt_of_block hEr.box)) (C3.block _ (lt_of_block hEr.self)) (fun q hq=>C3.block _ (hEr.row.lt q hq).2)
     obtain⟨a2,m2,c2,rfl⟩:=zfi hE3.row
     have cb:=(one_cell hE3.box).1
     have hs3:=Nat.le_trans hI.size C3.size
     have hN:(ns ++ outs.flatten).length≤10000:=(by simp only[List.length_append,List.length_singleton] at hcnt ⊢;omega)
     obtain⟨N,hNN⟩:∃ N,N=(ns ++ outs.flatten).length:=⟨_,rfl⟩
     have HR:Hid (w3.ownsRow lim 59 2 (.slice a2 m2 c2) N (zd1 (ns ++ outs.flatten))):=(by rw[hNN];exact hE3.row)
     have HNN:Hid _:=hNN
     rw[←hNN] at hN
     clear hNN hnl hEr
     dsimp only
     go_wp2_with (at_builtin;refine wpList_append_lies _ rfl _ _ 31 rfl lim 59 i0 (.agg #[.string ⟨#[]⟩,.string ⟨#[]⟩]) 2 32 Tryz.underlying31 hi0 hz0 hz1 hz2 rfl (by decide) (.slice a2 m2 c2) N _ rfl (HR.out.alloc _) ⟨w3.heap.size,0,none⟩ 1 1 [.string ⟨h9.toArray⟩,.string ⟨t.toArray⟩] rfl rfl (World.news_of_block (cs:=#[.string ⟨h9.toArray⟩,.string ⟨t.toArray⟩]) (t:=59) (fr:=(0,0)) (heap_alloc_new w3 _)) (by simp[Value.oneCell']) (by omega) (by unfold maxLen;omega) (by omega) (by simp;omega) (w3.heap.size+1) (by simp) ?_)
     intro g5 cap5 w5 hown5 hgrow5 hat5 hlt5
     have hv3:=fun q (hq:(Value.slice a2 m2 c2).ownBlock=some q)=>hE3.row.lt q hq
     have P5:w5.heap[bn]? = some (.cells #[.slice a2 m2 c2] 31 (0,0)):=(hgrow5.block bn (by simp;omega) (fun e=>by have:=hv3 _ e.symm;omega)).trans ((heap_alloc_old w3 _ (by omega)).trans hE3.box)
     have cb5:=(one_cell P5).1
     have fb5:=(one_cell P5).2 0
     have hI':HInv w0 w bn bh lim v0 ns outs outs.length (.slice a1 m1 c1) (.slice a2 m2 c2) wr:=(by rw[HN.out];exact hI)
     have HF:=hI'.done (t:=t) (v6:=.slice (some ⟨g5,0,none⟩) (N+1) cap5) hbnw hbhw hne hbl hhl hw0 hbn (by omega) C3 hgrow5 (fun q hq=>by
      simp only[Value.ownBlock,Option.some.injEq] at hq
      subst hq
      rcases hat5 with h | h
      · exact .inl h
      · exact .inr (by simp;omega)) (by rw[←HH.out,←HNN.out];exact hown5)
     have HF':=zve HF
     clear HF hI' hI hown5 hgrow5 hat5 hE3 hv3 P5 cb
     go_wp2
     go_ret
     refine⟨?_,HF'.out⟩
     rw[HH.out]
     simp[za0,zbi]
def nibE (es:List za):Prop:=∀ e∈es,zq e.1=true
theorem znl (l:List UInt8) (n:Nat) (h:zq l=true):zq (l.drop n)=true:=by
 have:=h;rw[←List.take_append_drop n l,zf6,Bool.and_eq_true] at this;exact this.2
theorem zvf (l:List UInt8) (n:Nat) (h:zq l=true):zq (l.take n)=true:=by
 have:=h;rw[←List.take_append_drop n l,zf6,Bool.and_eq_true] at this;exact this.1
theorem zvg {n:Nat} {es:List za} (h:nibE es):nibE (cutE n es):=by
 intro e he
 obtain⟨x,hx,rfl⟩:=List.mem_map.1 he
 exact znl _ _ (h x hx)
theorem zvh {d:Nat} {es:List za} (h:nibE es):nibE (grp d es):=by
 intro e he
 obtain⟨x,hx,he⟩:=List.mem_filterMap.1 he
 have h1:=h x hx
 unfold grp1 at he
 split at he
 · cases he
 · rename_i y ys hy
   split at he
   · cases he
     rw[hy] at h1
     exact znl _ 1 h1
   · cases he
theorem zvi {n:Nat} {es:List za} (h:zcz es):zcz (cutE n es):=by
 intro e he
 obtain⟨x,hx,rfl⟩:=List.mem_map.1 he
 have:=h x hx
 exact⟨by simp only[List.length_drop];omega,this.2⟩
theorem zvj {f:Nat} {es:List za} (hf:Fits f es) (h:es≠[]):(za0 (zk f es)).length=32:=by
 obtain⟨g,rfl⟩:=zit hf h
 obtain⟨ns,t,e⟩:=zia g es h
 rw[e,zlv];exact zgc t
theorem zvk {es:List za} (h:zcz es):(endV es).length≤60:=by
 have:=zl4 es (fun j hj=>(h _ (List.getElem_mem hj)).2) es.length (Nat.le_refl _)
 rwa [List.take_length] at this
theorem znm {w:World} {lo f:Nat} {p:Value} {es:List za} (h:IsTrie w lo f p es):∃ q,p=.pointer q:=by
 cases f with
 | zero=>exact⟨_,h.2⟩
 | succ f=>rcases h with h | ⟨b,_,h,_⟩ <;> exact⟨_,by first | exact h.2 | exact h⟩
theorem zjq (w0:World) (lo bn bh lim:Nat) (hbn:w0.heap.size≤bn) (hbh:w0.heap.size≤bh) (hne:bh≠bn) (hbl:bn<lim) (hhl:bh<lim) (hlim:lim≤bn+1∨lim≤bh+1) (hT:Tab w0) :
 ∀ (f:Nat) (p:Value) (es:List za),Fits f es→zcz es→nibE es→IsTrie w0 lo f p es→zha w0 bn bh lim p (zk f es)
 | 0, p, es, hf, hsm, hni, ht => by
   obtain⟨rfl,rfl⟩:=ht
   exact znk w0 bn bh lim
 | f + 1, p, es, hf, hsm, hni, ht => by
   rcases ht with ⟨rfl,rfl⟩ | ⟨b,hb,rfl,⟨e,rfl,hw⟩ | ⟨h2,hc,g,q,hg,hw,hq,ht⟩ | ⟨h2,hc,g,qs,hg,hw,hq,h16,ht⟩⟩
   · rw[zgs];exact znk w0 bn bh lim
   · rw[zs1]
     have h1:=hsm e (by simp)
     have:=zjp w0 bn bh lim b 1 e.1 e.2 none 0 (fun _=>none) [] (zev e) hbn hbh hne hbl hhl hlim hw (fun j h=>absurd h (Nat.not_lt_zero j)) rfl (by omega) (fun j h=>absurd h (Nat.not_lt_zero j)) (by have:=zqq e h1.1 h1.2;omega) hT (fun W c cap _=>zo6 e.1 c cap 0 e.2 W h1.1 (hni e (by simp)) h1.2)
     exact this
   · rw[zir f es h2 hc]
     have hes:es≠[]:=fun e=>by rw[e] at h2;simp at h2
     have hhd:(zb2 es)∈es.map (·.1):=by cases es with | nil=>exact absurd rfl hes | cons e es=>simp[zb2]
     obtain⟨e0,he0,hh0⟩:=List.mem_map.1 hhd
     have hp24:((zb2 es).take (zo es)).length≤24:=by rw[List.length_take,←hh0];have:=(hsm e0 he0).1;omega
     have hpn:zq ((zb2 es).take (zo es))=true:=zvf _ _ (by rw[←hh0];exact hni e0 he0)
     have hce:cutE (zo es) es≠[]:=fun e=>by have:=zex (zo es) es;rw[e] at this;simp at this;omega
     have hy:=zvj (zgw hf hc) hce
     obtain⟨qa,rfl⟩:=znm ht
     have IH:=zjq w0 lo bn bh lim hbn hbh hne hbl hhl hlim hT f _ _ (zgw hf hc) (zvi hsm) (zvg hni) ht
     have:=zjp w0 bn bh lim b 2 ((zb2 es).take (zo es)) [] (some ⟨g,0,none⟩) 1 (fun _=>qa) [zk f (cutE (zo es) es)] (zee ((zb2 es).take (zo es)) (za0 (zk f (cutE (zo es) es)))) hbn hbh hne hbl hhl hlim hw
      (fun j h => ⟨g, rfl, by obtain rfl : j = 0 := by omega
                              exact (one_cell hq).1⟩) rfl (by omega)
      (fun j h => by obtain rfl : j = 0 := by simp at h; omega
                     exact IH)
      (by have:=zqr ((zb2 es).take (zo es)) (za0 (zk f (cutE (zo es) es))) hp24 (by omega);omega) hT
      (fun W c cap hs => by
       obtain⟨b9,o9,rfl,_,h9⟩:=zes hs (by simp)
       have h9':=h9 0 (by simp)
       exact zo7 _ b9 o9 cap _ [] W hp24 hpn hy h9')
     simpa using this
   · rw[zgt f es h2 hc]
     have hk32:∀ d,(za0 (zk f (grp d es))).length≤32:=fun d=>zl7 f _
     have hfl:=zl5 f es 16 hk32
     have hhl16:=zl2 f es 16
     have hmap:((List.range 16).map fun d=>zk f (grp d es)).map za0=zak f es 16:=by simp[zak,List.map_map]
     have hv:=zvk hsm
     have hptr:∀ d,d<16→∃ q,qs.getD d undef=.pointer q:=fun d hd=>znm (ht d hd)
     have := zjp w0 bn bh lim b 3 [] (endV es) (some ⟨g, 0, none⟩) 16 (fun d => match qs.getD d undef with | .pointer q => q | _ => none) ((List.range 16).map fun d => zk f (grp d es)) (zew (zak f es 16) (endV es)) hbn hbh hne hbl hhl hlim hw
      (fun j h => ⟨g, rfl, by
       obtain⟨q,hq'⟩:=hptr j h
       simp only[hq',World.cell?,hq]
       rw[←hq',Array.getD_eq_getD_getElem?]
       have hlt:j<qs.size:=by omega
       simp[hlt]⟩) (by simp) (by omega)
      (fun j h => by
       have hj:j<16:=by simpa using h
       obtain⟨q,hq'⟩:=hptr j hj
       have IH:=zjq w0 lo bn bh lim hbn hbh hne hbl hhl hlim hT f _ _ (zis (d:=j) hf) (zqw hsm) (zvh hni) (ht j hj)
       rw[hq'] at IH
       simp only[hq']
       simpa using IH)
      (by have := (zek (zak f es 16 ++ [endV es]) (by simp only [List.flatten_append, List.length_append, List.flatten_singleton]; omega) (by simp [hhl16])).2
          unfold zew;omega) hT
      (fun W c cap hs => by
       rw[hmap] at hs
       obtain⟨b9,o9,rfl,_,h9⟩:=zes hs (by intro e;rw[e] at hhl16;simp at hhl16)
       exact zo9 [] b9 o9 cap (zak f es 16) (endV es) W hhl16 (by omega) hv (.inr ⟨b9,o9,rfl,h9⟩))
     exact this
theorem zvl (p:Option Addr) (lo f:Nat) (es:List za) (w:World) (hf:Fits f es) (hsm:zcz es) (hni:nibE es) (hl:(zk f es).length≤10000) (ht:IsTrie w lo f (.pointer p) es) (hT:Tab w) :
 Calls Tryz.prog 85 #[.pointer p] w fun r w'=>∃ v,r=.returned (.tuple #[.string ⟨(za0 (zk f es)).toArray⟩,v])∧w'.ownsRow w.heap.size 59 2 v (zk f es).length (zd1 (zk f es))∧Below w.heap.size w w':=by
 have hB:Below w.heap.size w ((w.alloc (.cells #[.slice none 0 0] 31)).alloc (.cells #[(.func (.func 108) #[] #[.pointer (some ⟨w.heap.size+1,0,none⟩),.pointer (some ⟨w.heap.size,0,none⟩)])] 169)):=((Below.refl _ _).alloc (Nat.le_refl _) _).alloc (by simp) _
 have n1:((w.alloc (.cells #[.slice none 0 0] 31)).alloc (.cells #[(.func (.func 108) #[] #[.pointer (some ⟨w.heap.size+1,0,none⟩),.pointer (some ⟨w.heap.size,0,none⟩)])] 169)).heap[w.heap.size]? = some (.cells #[.slice none 0 0] 31 (0,0)):=by
  rw[Below.heap_alloc _ _ _ (by simp)];exact heap_alloc_new _ _
 have n2:((w.alloc (.cells #[.slice none 0 0] 31)).alloc (.cells #[(.func (.func 108) #[] #[.pointer (some ⟨w.heap.size+1,0,none⟩),.pointer (some ⟨w.heap.size,0,none⟩)])] 169)).heap[w.heap.size+1]? = some (.cells #[(.func (.func 108) #[] #[.pointer (some ⟨w.heap.size+1,0,none⟩),.pointer (some ⟨w.heap.size,0,none⟩)])] 169 (0,0)):=by
  have:=heap_alloc_new (w.alloc (.cells #[.slice none 0 0] 31)) (.cells #[(.func (.func 108) #[] #[.pointer (some ⟨w.heap.size+1,0,none⟩),.pointer (some ⟨w.heap.size,0,none⟩)])] 169)
  simpa using this
 have c1:=(one_cell n1).1
 have c2:=(one_cell n2).1
 have KH:=zjq w lo w.heap.size (w.heap.size+1) (w.heap.size+2) (Nat.le_refl _) (by omega) (by omega) (by omega) (by omega) (by omega) hT f (.pointer p) es hf hsm hni ht ((w.alloc (.cells #[.slice none 0 0] 31)).alloc (.cells #[(.func (.func 108) #[] #[.pointer (some ⟨w.heap.size+1,0,none⟩),.pointer (some ⟨w.heap.size,0,none⟩)])] 169)) (.slice none 0 0) [] hB ⟨n1,n2,World.ownsRow_nil _ _ _ _⟩ (by simpa using hl)
 go_enter Tryz.func85,Tryz.ntmps85
 go_wp2_with fail
 with_reducible refine KH.mono ?_
 rintro r w3 ⟨rfl,hb3,hs3,v3,hE3,ho3,hk3⟩
 have cb3:=(one_cell hE3.box).1
 have hrow:=hE3.row
 rw[List.nil_append] at hrow
 have HO:Hid (w3.ownsRow w.heap.size 59 2 v3 (zk f es).length (zd1 (zk f es))):=hrow.mono (by omega)
 obtain⟨va,vm,vc,rfl⟩:∃ a m c,v3=.slice a m c:=by
  rcases hrow.2 with ⟨h,_⟩ | ⟨g,cap,cur,h,_⟩
  · exact⟨_,_,_,h⟩
  · exact⟨_,_,_,h⟩
 clear KH hE3 ho3 hk3 hrow c1 c2 n1 n2
 go_wp2
 go_quiet (fail)
 go_wp2
 go_ret2
 exact⟨_,rfl,ze0 HO.out fun q _=>rfl,⟨hb3.os,hb3.tape,hb3.output,hb3.size,hb3.block⟩⟩
end Go.Proofs.YtppljdnbhoeeoaaGreatDoor
