/-
 Texts that are laid as one: IStore, IAdd.
-/
import Derived.Test.YtiadimhoolekbaaGreatDoorSAdds
import Derived.Shelf.SlSortCmp.NoneTotal
namespace Go.Proofs.YtiadimhoolekbaaGreatDoor
open Go.RowKit
set_option linter.unusedVariables false
set_option maxHeartbeats 2000000
set_option maxRecDepth 100000
def mkK (x : { l:List UInt8 // l.length=32 }):Value:=.agg (zg x.1).toArray
abbrev HNT:=ByteArray × Int × ByteArray × Option Addr × Nat × Nat × ByteArray
def mkV (c:HNT):Value:=.agg #[.string c.1,.int .i64 c.2.1,.string c.2.2.1,.slice c.2.2.2.1 c.2.2.2.2.1 c.2.2.2.2.2.1,.string c.2.2.2.2.2.2]
theorem invK (key:Value) (kl:Lit) (h:keyOf Tryz.prog 99 key=some kl):∃ x,key=mkK x:=by
 obtain⟨l,hl,hk,_⟩:=zso key kl h
 exact⟨⟨l,hl⟩,hk⟩
theorem invV (v:Value) (y:DataW Value × List MemPlace) (h:uvR v=some y):∃ c,v=mkV c:=by
 obtain⟨t,k,p,a,m,c,x,hv,_⟩:=zwr h
 exact⟨(t,k,p,a,m,c,x),hv⟩
theorem zx5 (p:Option Addr) (cap:Nat) (fv:Value) (w:World) :
 Calls Tryz.prog 98 #[.slice p 0 cap,fv] w fun e w'=>e=.returned (.tuple #[])∧w'=w:=by
 have:=Go.Proofs.AnyF.slices_SortFunc_none Tryz.sortSt p cap fv w
 exact this
structure Took (f:List UInt8→Option (List UInt8)) (left:Lit→Bool) (L:List za):Prop where
 mem:∀ x t:List UInt8,(x,t)∈L↔x.length=32∧left (zn x)=false∧f x=some t
 keys:L.Pairwise (fun x y=>x.1≠y.1)
theorem zx6 {D:DataW Value} {f:List UInt8→Option (List UInt8)} (h:TxtAt D f):Took f (Maps.has D) [] :=
 ⟨fun x t=>⟨fun h9=>absurd h9 (by simp),fun h9=>by have h2:=h9.2.1;rw[zgg h x h9.1,h9.2.2] at h2;cases h2⟩,List.Pairwise.nil⟩
theorem zx7 {f:List UInt8→Option (List UInt8)} {left:Lit→Bool} {L:List za} (h:Took f left L) (x t:List UInt8) (hx:x.length=32) (hl:left (zn x)=true) (hf:f x=some t):Took f (fun z=>left z && !z.sameKey (zn x)) (L ++ [(x,t)]):=by
 refine⟨fun x' t'=>?_,?_⟩
 · rw [List.mem_append, h.mem]
   constructor
   · rintro (⟨h1,h2,h3⟩ | h1)
     · exact⟨h1,by simp[h2],h3⟩
     · rw[List.mem_singleton] at h1
       cases h1
       exact⟨hx,by simp[zhg x x hx hx],hf⟩
   · rintro⟨h1,h2,h3⟩
     by_cases e:x'=x
     · subst e
       rw[hf] at h3
       cases h3
       exact .inr (by simp)
     · rw[zhg x' x h1 hx,decide_eq_false e] at h2
       simp at h2
       exact .inl ⟨h1,h2,h3⟩
 · rw[List.pairwise_append]
   refine⟨h.keys,by simp,fun p hp q hq=>?_⟩
   rw[List.mem_singleton] at hq
   subst hq
   intro e
   have:=((h.mem p.1 p.2).1 hp).2.1
   rw[e] at this
   rw[this] at hl;cases hl
theorem zx8 (L:List za) (hk:L.Pairwise (fun x y=>x.1≠y.1)) (hr:zhf L):L.Pairwise (fun x y=>x.1<y.1):=by
 rw[List.pairwise_iff_getElem] at hk ⊢
 intro i j hi hj hij
 have h1:=hk i j hi hj hij
 have h2:=hr i j hij hj
 rcases tri L[i].1 L[j].1 with h | h | h
 · exact h
 · exact absurd h h1
 · exact absurd h h2
theorem zx9 {f:List UInt8→Option (List UInt8)} {left:Lit→Bool} {L L' M:List za} (h:Took f left L) (hl:∀ kl,left kl=false) (hp:L'.Perm L) (hr:zhf L') (hM:M.Pairwise (fun x y=>x.1<y.1)) (hm:∀ x t:List UInt8,(x,t)∈M↔x.length=32∧f x=some t):L'=M:=by
 refine zg4 L' M (zx8 L' (hp.symm.pairwise h.keys (fun {a b} h9=>fun e=>h9 e.symm)) hr) hM (fun p=>?_)
 rw[hp.mem_iff]
 obtain⟨x,t⟩:=p
 rw[h.mem,hm]
 exact⟨fun ⟨h1,_,h3⟩=>⟨h1,h3⟩,fun ⟨h1,h3⟩=>⟨h1,hl _,h3⟩⟩
theorem zxa (mb n : Nat) (D : DataW Value) (f : List UInt8 → Option (List UInt8)) (M : List za) (w : World) (hn : n ≤ 1000) (hown : w.ownsMap Tryz.prog 99 uvR mb n D) (hTx : TxtAt D f) (hM : M.Pairwise (fun x y => x.1 < y.1)) (hm : ∀ x t : List UInt8, (x, t) ∈ M ↔ x.length = 32 ∧ f x = some t) :
 Calls Tryz.prog 76 #[.map (some mb)] w fun e w'=>∃ (a:Option Addr) (m c:Nat),e=.returned (.slice a m c)∧w'.ownsRow w.heap.size 83 2 (.slice a m c) M.length (zc M)∧Below w.heap.size w w':=by
 obtain⟨i0,hi0,hz0,hz1,hz2⟩:=info_parts zfj
 have HTX:Hid (TxtAt D f):=hTx
 have HEND:Hid (∀ (left:Lit→Bool) (L L':List za),Took f left L→(∀ kl,left kl=false)→L'.Perm L→zhf L'→L'=M):=fun left L L' h1 h2 h3 h4=>zx9 h1 h2 h3 h4 hM hm
 have T0:Hid (Took f (Maps.has D) []):=zx6 hTx
 have HA1:Hid (∀ x:List UInt8,x.length=32→Maps.has D (zn x)=true→(f x).isSome=true):=fun x hx h=>by rw[zgg hTx x hx] at h;exact h
 have hsz:Maps.size D≤n:=hown.size_le
 have hmb:=hown.lt
 clear hTx hM hm
 go_enter Tryz.func76,Tryz.ntmps76
 go_wp2_with (first
  | (at_range;refine wpList_range_own _ rfl _ 49 rfl 99 97 zda Tryz.underlying49 uvR mb n D rfl hown ?_;intro w3 hrg3 hg3 hs3)
  | go_in)
 go_frame
 have Bw3:Below w.heap.size w w3:=(Below.refl _ _).grown hg3 (Nat.le_refl _) (fun k hk=>by cases hk)
 go_loopw [3] (fun l wr=>∃ (left:Lit→Bool) (cnt m c:Nat) (a:Option Addr) (L:List za),l=.slice a m c∧wr.ranges Tryz.prog 99 uvR mb w.heap.size n D left cnt∧L.length+cnt≤n∧wr.ownsRow (w.heap.size+1) 83 2 (.slice a m c) L.length (zc L)∧Hid (∀ x:List UInt8,x.length=32→left (zn x)=true→(f x).isSome=true)∧Hid (Took f left L)∧Below w.heap.size w wr∧w.heap.size+1≤wr.heap.size) (fun _ wr=>wr.rangeLeft mb w.heap.size)
 case atStart =>
  exact⟨_,_,0,0,none,[],rfl,hrg3,by simpa using hsz,World.ownsRow_nil _ _ _ _,HA1,T0,Bw3,by omega⟩
 case round =>
  obtain⟨left,cnt,m,c,a,L,rfl,hrg,hLc,hrow,HLQ,HTK,hnx,hS1⟩:=hrel
  go_wp2_with (first
   | (at_next;refine wpList_next_ranges _ rfl _ rfl 99 zda uvR mkK mkV invK invV mb w.heap.size n D left cnt rfl hrg ?_ ?_)
   | go_in)
  · intro hc0 hl0
    have HE:Hid (∀ L':List za,L'.Perm L→zhf L'→L'=M):=fun L' h1 h2=>HEND.out left L L' HTK.out hl0 h1 h2
    rcases zcb hrow with ⟨e9,hn0,_⟩ | ⟨g9,c9,e9,_⟩
    · have hL0:L=[]:=by
       cases L with
       | nil=>rfl
       | cons p r=>simp at hn0
      subst hL0
      have HM0:Hid (M=[]):=(HE.out [] (List.Perm.refl _) (fun i j hi hj=>by simp at hj)).symm
      cases e9
      have KS:=zx5 none 0 (.func (.func 105) #[] #[]) wr
      clear hrow HEND HTK HLQ hrg T0 HE
      go_wp2_with fail
      refine KS.mono ?_
      rintro e w5 ⟨rfl,rfl⟩
      go_wp2
      go_ret
      exact⟨_,_,_,rfl,by rw[HM0.out];exact World.ownsRow_nil _ _ _ _,hnx⟩
    · have ea:a=some ⟨g9,0,none⟩:=by cases e9;rfl
      have em:m=L.length:=by cases e9;rfl
      subst ea em
      clear e9
      have KS:=za2c (w.heap.size+1) g9 c L wr (by omega) hrow
      have HLM:Hid (∀ L':List za,L'.Perm L→L'.length=L.length):=fun L' h=>h.length_eq
      clear hrow HEND HTK HLQ hrg T0
      go_wp2_with fail
      refine KS.mono ?_
      rintro e w5 ⟨rfl,ns',hp,hr,o5,b5⟩
      have e8:=HE.out ns' hp hr
      have e7:=HLM.out ns' hp
      subst e8
      have O5:Hid (w5.ownsRow w.heap.size 83 2 (.slice (some ⟨g9,0,none⟩) L.length c) ns'.length (zc ns')):=by rw[Hid,e7];exact o5.mono (Nat.le_succ _)
      have B5:Hid (Below w.heap.size w w5):=hnx.trans (b5.mono (Nat.le_succ _))
      clear o5 b5 hp hr KS HE e7 HLM
      go_wp2
      go_ret
      exact⟨_,_,_,rfl,O5.out,B5.out⟩
  · intro x hx t k0 p0 a0 m0 c0 z0 kl y1 y2 w4 cnt4 hkl hlk hy hat hrg4 hlt4 hg4 hs4 hen4
    have ekl:kl=zn x:=by
     have h9:keyOf Tryz.prog 99 (mkK ⟨x,hx⟩)=some (zn x):=zf9 x hx
     rw[h9] at hkl;exact (Option.some.inj hkl).symm
    subst ekl
    have ey:y1=.held (.agg #[.string t,.int .i64 k0,.string p0,.slice a0 m0 c0,.string z0]):=by
     have h9:uvR (mkV (t,k0,p0,a0,m0,c0,z0))=some (.held (.agg #[.string t,.int .i64 k0,.string p0,.slice a0 m0 c0,.string z0]),[]):=rfl
     rw[h9] at hy;cases hy;rfl
    subst ey
    have HQ:∃ tl:List UInt8,t=⟨tl.toArray⟩∧f x=some tl:=by
     rcases HTX.out x hx with ⟨h9,_⟩ | ⟨tl,v',h9,_,h3,h4⟩
     · have h8:=HLQ.out x hx hlk
       rw[h9] at h8;cases h8
     · have e:=(hat (.held undef)).symm.trans (h3 (.held undef))
       obtain⟨k,p,a,m,c,z,rfl⟩:=h4
       simp at e
       exact⟨tl,e.1,h9⟩
    obtain⟨tl,rfl,hq⟩:=HQ
    have HLQ4:Hid (∀ x':List UInt8,x'.length=32→(left (zn x') && !(zn x').sameKey (zn x))=true→(f x').isSome=true):=fun x' hx' h=>HLQ.out x' hx' (by simp at h;exact h.1)
    have HTK4:Hid (Took f (fun z=>left z && !z.sameKey (zn x)) (L ++ [(x,tl)])):=zx7 HTK.out x tl hx hlk hq
    have R4:Hid (w4.ranges Tryz.prog 99 uvR mb w.heap.size n D (fun z=>left z && !z.sameKey (zn x)) cnt4):=hrg4
    have BW4:Hid (Below w.heap.size w w4):=hnx.grown hg4 hnx.size (fun j hj=>by cases hj;exact Nat.le_refl _)
    have O4:Hid (w4.ownsRow (w.heap.size+1) 83 2 (.slice a m c) L.length (zc L)):=hrow.kept hg4 (by
     cases a with
     | none=>exact .inl rfl
     | some q=>exact .inr (fun e=>by have h9:=hrow.lt q.block rfl;have:=Option.some.inj e;omega))
    have hcs:(zg x).toArray.size=32:=by simp[zg,hx]
    have h1c:(zg x).toArray.all (·.oneCell')=true:=by
     rw[Array.all_eq_true];intro i hi;simp[zg,Value.oneCell']
    have HG5:Hid (∀ o1 o2:Obj,((w4.alloc o1).alloc o2).heap[wr.heap.size]? = some o1):=fun o1 o2=>(Below.heap_alloc _ _ _ (by simp;omega)).trans (by rw[←hs4];exact heap_alloc_new w4 o1)
    have HG6:Hid (∀ o1 o2:Obj,((w4.alloc o1).alloc o2).heap[wr.heap.size+1]? = some o2):=fun o1 o2=>by
     have:=heap_alloc_new (w4.alloc o1) o2
     rw[show (w4.alloc o1).heap.size=wr.heap.size+1 by simp;omega] at this
     exact this
    unfold mkK mkV at hen4
    unfold mkK mkV
    simp only at hen4 ⊢
    obtain⟨cs,hcd⟩:∃ cs,cs=(zg x).toArray:=⟨_,rfl⟩
    have HCD:Hid (cs=(zg x).toArray):=hcd
    rw[←hcd] at hen4 hcs h1c ⊢
    have HI:Hid ((Tryz.prog.info? 99).map (·.size)=some cs.size):=by rw[Hid,hcs];kernel_rfl
    have HI5:Hid ((Tryz.prog.info? 97).map (·.size)=some 5):=by rw[Hid];kernel_rfl
    clear hcd hkl hat hrg4 hq hy HLQ HTK HA1 T0 HEND hrow
    go_wp2_with (first
     | (refine ze5 rfl 99 _ _ rfl wr.heap.size cs rfl rfl 99 _ (HG5.out _ _) HI.out (by rw [hcs]; rfl) h1c ?_; intro w5 hL5
        have B5:Hid (Below w4.heap.size w4 w5):=hL5.below (((Below.refl _ _).alloc (Nat.le_refl _) _).alloc (by simp) _) (by omega)
        have Y5:Hid (w5.heap[wr.heap.size+1]? = some (.cells #[.string ⟨#[]⟩,.int .i64 0,.string ⟨#[]⟩,.slice none 0 0,.string ⟨#[]⟩] 97 (0,0))):=(hL5.other _ (by omega)).trans (HG6.out _ _)
        have X5:Hid (w5.heap[wr.heap.size]? = some (.cells cs 99 (0,0))):=hL5.row
        clear hL5)
     | (refine ze5 rfl 97 _ _ rfl (wr.heap.size + 1) #[.string ⟨tl.toArray⟩, .int .i64 k0, .string p0, .slice a0 m0 c0, .string z0] rfl rfl 97 _ Y5.out HI5.out rfl (by simp [Value.oneCell']) ?_; intro w6 hL6
        have B6:Hid (Below w4.heap.size w4 w6):=hL6.below B5.out (by omega)
        have Y6:Hid (w6.heap[wr.heap.size+1]? = some (.cells #[.string ⟨tl.toArray⟩,.int .i64 k0,.string p0,.slice a0 m0 c0,.string z0] 97 (0,0))):=hL6.row
        have X6:Hid (w6.heap[wr.heap.size]? = some (.cells cs 99 (0,0))):=(hL6.other _ (by omega)).trans X5.out
        have R6:Hid (w6.ranges Tryz.prog 99 uvR mb w.heap.size n D (fun z=>left z && !z.sameKey (zn x)) cnt4):=R4.out.kept (zc2 B6.out none) (by simp) (by simp)
        obtain⟨q0,q1,q2,q3,q4,_⟩:=zd2 Y6.out
        clear hL6 B5 Y5 X5)
     | fail)
    have HSX:Hid (∀ W:World,W.heap[wr.heap.size]? = some (.cells cs 99 (0,0))→W.heap[wr.heap.size+1]? = some (.cells #[.string ⟨tl.toArray⟩,.int .i64 k0,.string p0,.slice a0 m0 c0,.string z0] 97 (0,0))→(fun w'=>(convert 22 9 (.slice (some ⟨wr.heap.size,0,none⟩) 32 32)).run Tryz.prog w'=.ok (.string ⟨x.toArray⟩) w'∧w'.cell? ⟨wr.heap.size+1,0,none⟩=some (.string ⟨tl.toArray⟩)) W):=fun W hr hr5=>by
     refine⟨?_,(zd2 hr5).1⟩
     have:=run_convert_bytes_back W 22 9 5 ⟨wr.heap.size,0,none⟩ 32 x Tryz.underlying22 Tryz.underlying5 Tryz.underlying9 (fun j hj=>by
      rw[zg9,cell_of_row W _ j cs _ (0,0) hr,HCD.out]
      simp[zg,hj])
     rw[hx] at this
     exact this
    have SD:Hid ((fun w'=>(convert 22 9 (.slice (some ⟨wr.heap.size,0,none⟩) 32 32)).run Tryz.prog w'=.ok (.string ⟨x.toArray⟩) w'∧w'.cell? ⟨wr.heap.size+1,0,none⟩=some (.string ⟨tl.toArray⟩)) w6.drew):=HSX.out _ X6.out Y6.out
    have BA:Hid (Below w6.heap.size w6 (w6.alloc (.cells #[.string ⟨x.toArray⟩,.string ⟨tl.toArray⟩] 83)).drew):=zz ((Below.refl _ _).alloc (Nat.le_refl _) _)
    have XA:Hid ((w6.alloc (.cells #[.string ⟨x.toArray⟩,.string ⟨tl.toArray⟩] 83)).drew.heap[wr.heap.size]? = some (.cells cs 99 (0,0))):=(BA.out.block _ (lt_of_block X6.out)).trans X6.out
    have YA:Hid ((w6.alloc (.cells #[.string ⟨x.toArray⟩,.string ⟨tl.toArray⟩] 83)).drew.heap[wr.heap.size+1]? = some (.cells #[.string ⟨tl.toArray⟩,.int .i64 k0,.string p0,.slice a0 m0 c0,.string z0] 97 (0,0))):=(BA.out.block _ (lt_of_block Y6.out)).trans Y6.out
    have SA:Hid ((fun w'=>(convert 22 9 (.slice (some ⟨wr.heap.size,0,none⟩) 32 32)).run Tryz.prog w'=.ok (.string ⟨x.toArray⟩) w'∧w'.cell? ⟨wr.heap.size+1,0,none⟩=some (.string ⟨tl.toArray⟩)) (w6.alloc (.cells #[.string ⟨x.toArray⟩,.string ⟨tl.toArray⟩] 83)).drew):=HSX.out _ XA.out YA.out
    have O6:Hid ((w6.alloc (.cells #[.string ⟨x.toArray⟩,.string ⟨tl.toArray⟩] 83)).drew.ownsRow (w.heap.size+1) 83 2 (.slice a m c) L.length (zc L)):=(za2a O4.out B6.out).alloc (.cells #[.string ⟨x.toArray⟩,.string ⟨tl.toArray⟩] 83)
    have N6:Hid (∀ j u,([.string ⟨x.toArray⟩,.string ⟨tl.toArray⟩]:List Value)[j]? = some u→(w6.alloc (.cells #[.string ⟨x.toArray⟩,.string ⟨tl.toArray⟩] 83)).drew.cell? ((⟨w6.heap.size,0,none⟩:Addr).add j)=some u):=World.news_of_block (cs:=#[.string ⟨x.toArray⟩,.string ⟨tl.toArray⟩]) (t:=83) (fr:=(0,0)) (heap_alloc_new w6 _)
    have BW6:Hid (Below w.heap.size w (w6.alloc (.cells #[.string ⟨x.toArray⟩,.string ⟨tl.toArray⟩] 83)).drew):=BW4.out.trans ((B6.out.trans (BA.out.mono B6.out.size)).mono BW4.out.size)
    have Z6:Hid (w.heap.size+1≤(w6.alloc (.cells #[.string ⟨x.toArray⟩,.string ⟨tl.toArray⟩] 83)).drew.heap.size):=by
     have h9:=B6.out.size
     have h8:=BA.out.size
     rw[Hid];omega
    have R6a:Hid ((w6.alloc (.cells #[.string ⟨x.toArray⟩,.string ⟨tl.toArray⟩] 83)).drew.ranges Tryz.prog 99 uvR mb w.heap.size n D (fun z=>left z && !z.sameKey (zn x)) cnt4):=R6.out.kept (zc2 BA.out none) (by simp) (by simp)
    have G6:Hid (∀ k,(Value.slice a m c).ownBlock=some k→w.heap.size+1≤k∧k<wr.heap.size):=fun k hk=>⟨(O4.out.lt k hk).1,by have:=(O4.out.lt k hk).2;omega⟩
    clear HG5 HG6 HI HI5 hcs h1c hen4
    go_region_held3 (fun w'=>(convert 22 9 (.slice (some ⟨wr.heap.size,0,none⟩) 32 32)).run Tryz.prog w'=.ok (.string ⟨x.toArray⟩) w'∧w'.cell? ⟨wr.heap.size+1,0,none⟩=some (.string ⟨tl.toArray⟩))
     (first | with_reducible exact S7.out | with_reducible exact SA.out | with_reducible exact SD.out)
     ((refine step_append_lies _ rfl (.tmp 13) (.tmp 19) 24 rfl (w.heap.size + 1) 83 i0 (.agg #[.string ⟨#[]⟩, .string ⟨#[]⟩]) 2 32 Tryz.underlying24 hi0 hz0 hz1 hz2 rfl (by decide) (.slice a m c) L.length _ (by simp [Act.eval]) O6.out ⟨w6.heap.size, 0, none⟩ 1 1 [.string ⟨x.toArray⟩, .string ⟨tl.toArray⟩] (by simp [Act.eval]) rfl N6.out (by simp [Value.oneCell']) (by decide) (by unfold maxLen; omega) (by omega) Z6.out _ rfl ?_
       intro g7 c7 w7 hown7 hgrow7 hat7 hlt7
       have S7:Hid ((fun w'=>(convert 22 9 (.slice (some ⟨wr.heap.size,0,none⟩) 32 32)).run Tryz.prog w'=.ok (.string ⟨x.toArray⟩) w'∧w'.cell? ⟨wr.heap.size+1,0,none⟩=some (.string ⟨tl.toArray⟩)) w7):=HSX.out _ ((hgrow7.block _ (lt_of_block XA.out) (fun e=>by have:=(G6.out _ e.symm).2;omega)).trans XA.out) ((hgrow7.block _ (lt_of_block YA.out) (fun e=>by have:=(G6.out _ e.symm).2;omega)).trans YA.out)
       have O7:=zf hown7
       have R7:Hid (w7.ranges Tryz.prog 99 uvR mb w.heap.size n D (fun z=>left z && !z.sameKey (zn x)) cnt4):=R6a.out.kept hgrow7 (fun e=>by have:=(G6.out _ e.symm).1;omega) (fun e=>by have:=(G6.out _ e.symm).1;omega)
       have B7:Hid (Below w.heap.size w w7):=BW6.out.grown hgrow7 BW6.out.size (fun k hk=>by have:=(G6.out _ hk).1;omega)
       have Z7:Hid (w.heap.size+1≤w7.heap.size):=Nat.le_trans Z6.out hgrow7.size
       clear hown7 hgrow7 hat7 hlt7))
    all_goals
     go_wp2
     go_roundw
     case rel=>exact⟨_,cnt4,L.length+1,c7,some ⟨g7,0,none⟩,L ++ [(x,tl)],rfl,R7.out,by simp;omega,by rw[List.length_append,zai];exact O7.out,HLQ4,HTK4,B7.out,Z7.out⟩
     case measure=>rw[R7.out.left_eq,hrg.left_eq];exact hlt4
def zek (ps qs:List za) (left:Lit→Bool) (x:List UInt8):Option (List UInt8):=if left (zn x)=true then zh ps x else zeb ps qs x
theorem zxb (ps qs:List za) (hp:zu ps=true) (hq:zu qs=true) (hc:zbr ps qs=false) (x t:List UInt8):(x,t)∈zl (ps ++ qs)↔x.length=32∧zeb ps qs x=some t:=by
 obtain⟨s1,s2,s3⟩:=zcj (ps ++ qs)
 have h1:=zdu ps hp
 have h2:=zdu qs hq
 rw[zhh ps qs h1 h2 hc]
 constructor
 · intro h
   refine⟨?_,s2 _ h⟩
   have h9:=s2 _ h
   rw[List.mem_append] at h9
   rcases h9 with h9 | h9
   · exact zfd ps hp _ h9
   · exact zfd qs hq _ h9
 · rintro⟨_,h⟩
   obtain⟨y,hy,he⟩:=s3 _ h
   rw[←zsq ps qs h1 h2 hc y (s2 y hy) _ h he]
   exact hy
theorem zxc (ps qs:List za) (hq:zu qs=true) (h:∀ x t t':List UInt8,x.length=32→zh qs x=some t→zh ps x=some t'→t'=t):zbr ps qs=false:=by
 refine zmk ps qs (fun j hj t' ht=>?_)
 refine h qs[j].1 qs[j].2 t' (zfd qs hq _ (List.getElem_mem hj)) ?_ ht
 rw[zgh qs (zdu qs hq)]
 exact List.getElem_mem hj
theorem zxd (a1 : Option Addr) (cap : Nat) (ps : List za) (a2 : Option Addr) (cap2 : Nat) (qs : List za) (w : World) (hT : Tab w) (hl : ps.length ≤ 1048576) (hm : ∀ p ∈ ps, p.1.length ≤ 1048576 ∧ p.2.length ≤ 1048576) (hs : IsPairs w a1 ps) (hl2 : qs.length ≤ 1048576) (hm2 : ∀ p ∈ qs, p.1.length ≤ 1048576 ∧ p.2.length ≤ 1048576) (hs2 : IsPairs w a2 qs) :
 Calls Tryz.prog 42 #[.slice a1 ps.length cap,.slice a2 qs.length cap2] w fun e w'=>zf2 w ps qs e w':=by
 have K1:=zky a1 cap ps w hT hl hm hs
 have HT:Hid (Tab w):=hT
 have HK2:Hid (∀ W,Below w.heap.size w W→Tab W→_):=fun W hW hT=>zky a2 cap2 qs W hT hl2 hm2 (hs2.later hW)
 have HNO1:Hid (zu ps=false→za3 ps qs=false):=zsr ps qs
 have HNO2:Hid (zu qs=false→za3 ps qs=false):=zss ps qs
 by_cases h1:zu ps=true
 case neg =>
  have h1':zu ps=false:=by simpa using h1
  have HZZ:Hid (za3 ps qs=false):=HNO1.out h1'
  rw[h1'] at K1
  clear hs hs2 hm hm2 hT h1 h1'
  go_enter Tryz.func42,Tryz.ntmps42
  go_wp2_with fail
  refine K1.mono ?_
  rintro e w1 ⟨rfl,b1⟩
  go_wp2
  go_ret2
  exact zf3 HZZ.out b1
 by_cases h2:zu qs=true
 case neg =>
  have h2':zu qs=false:=by simpa using h2
  have HZZ:Hid (za3 ps qs=false):=HNO2.out h2'
  rw[h1] at K1
  rw[h2'] at HK2
  clear hs hs2 hm hm2 hT h1 h2 h2'
  go_enter Tryz.func42,Tryz.ntmps42
  go_wp2_with fail
  refine K1.mono ?_
  rintro e w1 ⟨mb,rfl,hM,_,b1⟩
  have K2:=HK2.out w1 b1 (HT.out.later b1)
  clear hM
  go_wp2_with fail
  refine K2.mono ?_
  rintro e w2 ⟨rfl,b2⟩
  have B2:=b1.trans (b2.mono b1.size)
  go_wp2
  go_ret2
  exact zf3 HZZ.out B2
 have HST:Hid (zu ps=true∧zu qs=true):=⟨h1,h2⟩
 have hp4:=zj9 ps h1
 have hq4:=zj9 qs h2
 rw[h1] at K1
 rw[h2] at HK2
 clear hs hs2 hm hm2 hT h1 h2 HNO1 HNO2
 go_enter Tryz.func42,Tryz.ntmps42
 go_wp2_with fail
 refine K1.mono ?_
 rintro e w1 ⟨mb,rfl,hM,hmb,b1⟩
 have K2:=HK2.out w1 b1 (HT.out.later b1)
 have HM1:Hid (HeldM w1 mb ps ps.length):=hM
 clear hM K1
 go_wp2_with fail
 refine K2.mono ?_
 rintro e w2 ⟨mc,rfl,hM2,hmc,b2'⟩
 have B2:=b1.trans (b2'.mono b1.size)
 obtain⟨D1,o1,t1⟩:=zsp HST.out.1 (HM1.out.later b2')
 obtain⟨D2,o2,t2⟩:=zsp HST.out.2 hM2
 have HO1:Hid (w2.ownsMap Tryz.prog 99 uvR mb ps.length D1):=o1
 have HT1:Hid (TxtAt D1 (zh ps)):=t1
 have HT2:Hid (TxtAt D2 (zh qs)):=t2
 have hne:mb<mc:=Nat.lt_of_lt_of_le HM1.out.lt hmc
 have hcl:mc<w2.heap.size:=o2.lt
 have HS2:Hid (Maps.size D2≤qs.length):=o2.size_le
 clear K2 HK2 hM2 o1 t1 t2 b2' HM1
 go_wp2_with (first
  | (at_range;refine wpList_range_own _ rfl _ 49 rfl 99 97 zda Tryz.underlying49 uvR mc qs.length D2 rfl o2 ?_;intro w3 hrg3 hg3 hs3)
  | go_in)
 go_frame
 have HNC0:Hid (TxtAt D1 (zek ps qs (Maps.has D2))):=HT1.out.congr (fun x hx=>by
  unfold zek
  rw[zgg HT2.out x hx]
  cases h:zh qs x with
  | none=>simp[zeb,h]
  | some t=>simp)
 have Bw3:Below w.heap.size w w3:=B2.grown hg3 B2.size (fun k hk=>by cases hk)
 have HA1:Hid (∀ x:List UInt8,x.length=32→Maps.has D2 (zn x)=true→(zh qs x).isSome=true):=fun x hx h=>by rw[zgg HT2.out x hx] at h;exact h
 have HA2:Hid (∀ x t t':List UInt8,x.length=32→Maps.has D2 (zn x)=false→zh qs x=some t→zh ps x=some t'→t'=t):=fun x t t' hx h h1 _=>by rw[zgg HT2.out x hx,h1] at h;cases h
 go_loopw [29] (fun _ wr=>∃ (left:Lit→Bool) (cnt n1:Nat) (D:DataW Value),wr.ranges Tryz.prog 99 uvR mc w2.heap.size qs.length D2 left cnt∧cnt≤qs.length∧n1+cnt≤ps.length+qs.length∧wr.ownsMap Tryz.prog 99 uvR mb n1 D∧Hid (TxtAt D (zek ps qs left))∧Hid (∀ x:List UInt8,x.length=32→left (zn x)=true→(zh qs x).isSome=true)∧Hid (∀ x t t':List UInt8,x.length=32→left (zn x)=false→zh qs x=some t→zh ps x=some t'→t'=t)∧Below w.heap.size w wr) (fun _ wr=>wr.rangeLeft mc w2.heap.size)
 case atStart =>
  exact⟨_,_,ps.length,D1,hrg3,HS2.out,Nat.add_le_add_left HS2.out _,HO1.out.kept hg3 (by simp),HNC0,HA1,HA2,Bw3⟩
 case round =>
  obtain⟨left,cnt,n1,D,hrg,hcs,hn1,hout,HTX,HLQ,HOLD,hnx⟩:=hrel
  go_wp2_with (first
   | (at_next;refine wpList_next_ranges _ rfl _ rfl 99 zda uvR mkK mkV invK invV mc w2.heap.size qs.length D2 left cnt rfl hrg ?_ ?_)
   | go_in)
  · intro hc0 hl0
    have HC:zbr ps qs=false:=zxc ps qs HST.out.2 (fun x t t' hx h1 h2=>HOLD.out x t t' hx (hl0 _) h1 h2)
    have HTU:TxtAt D (zeb ps qs):=HTX.out.congr (fun x hx=>by unfold zek;rw[if_neg (by rw[hl0];simp)])
    obtain⟨u1,u2,u3⟩:=za2i ps qs HST.out.1 HST.out.2 HC
    have HSZ:Maps.size D=(zl (ps ++ qs)).length:=by
     rw[za2e hout HTU _ u1 u2 (fun x _=>u3 x),List.length_map]
    have KS:Hid (∀ W,W.ownsMap Tryz.prog 99 uvR mb n1 D→Calls Tryz.prog 76 #[.map (some mb)] W fun e w'=>∃ (a:Option Addr) (m c:Nat),e=.returned (.slice a m c)∧w'.ownsRow W.heap.size 83 2 (.slice a m c) (zl (ps ++ qs)).length (zc (zl (ps ++ qs)))∧Below W.heap.size W w'):=fun W hW=>zxa mb n1 D (zeb ps qs) (zl (ps ++ qs)) W (by omega) hW HTU (zcj (ps ++ qs)).1 (fun x t=>zxb ps qs HST.out.1 HST.out.2 HC x t)
    have HE:Hid ((400<(zl (ps ++ qs)).length→za3 ps qs=false)∧((zl (ps ++ qs)).length≤400→za3 ps qs=true)):=⟨zsu ps qs,zj8 ps qs HST.out.1 HST.out.2 HC⟩
    have HRY:Hid (za3 ps qs=true→addR ps qs=zl (ps ++ qs)):=zfk ps qs
    have HLS:Hid ((zl (ps ++ qs)).length≤800):=by
     have:=zf5 (ps ++ qs) _ (Nat.le_refl _)
     rw[List.take_length,List.length_append] at this
     rw[Hid];omega
    obtain⟨R,hR⟩:∃ R,R=zl (ps ++ qs):=⟨_,rfl⟩
    rw[←hR] at KS HE HRY HSZ HLS
    have HSD:Hid (Maps.size D=R.length):=HSZ
    have hls:=HLS.out
    have M0:Hid (wr.ownsMap Tryz.prog 99 uvR mb n1 D):=hout
    clear hR HC HTU u1 u2 u3 HSZ HTX HOLD HLQ hrg hout HNC0 HA1 HA2
    by_cases h4:R.length≤400
    · have hh:¬ 400<(R.length:Int):=by omega
      have hok:=HE.out.2 h4
      have HOK:Hid (za3 ps qs=true∧addR ps qs=R):=⟨hok,HRY.out hok⟩
      have K5:=KS.out wr M0.out
      clear HE HRY hok KS
      go_wp2_with (first
       | (at_len;refine wpList_len_own _ rfl _ 49 rfl 99 97 Tryz.underlying49 uvR mb n1 D rfl M0.out ?_;rw[HSD.out])
       | fail)
      refine K5.mono ?_
      rintro e w5 ⟨a5,m5,c5,rfl,o5,b5⟩
      have B5:=hnx.trans (b5.mono hnx.size)
      have O5:=zf (o5.mono (base':=w.heap.size) hnx.size)
      clear o5 b5 K5
      go_wp2
      go_ret2
      exact⟨_,_,_,by rw[HOK.out.1];rfl,by rw[HOK.out.2];exact O5.out,by first | exact B5 | exact zz B5⟩
    · have hh:400<(R.length:Int):=by omega
      have HZZ:Hid (za3 ps qs=false):=HE.out.1 (by omega)
      clear HE HRY KS
      go_wp2_with (first
       | (at_len;refine wpList_len_own _ rfl _ 49 rfl 99 97 Tryz.underlying49 uvR mb n1 D rfl M0.out ?_;rw[HSD.out])
       | go_in)
      go_ret2
      exact zf3 HZZ.out hnx
  · intro x hx t k0 p0 a0 m0 c0 z0 kl y1 y2 w4 cnt4 hkl hlk hy hat hrg4 hlt4 hg4 hs4 hen4
    have ekl:kl=zn x:=by
     have h9:keyOf Tryz.prog 99 (mkK ⟨x,hx⟩)=some (zn x):=zf9 x hx
     rw[h9] at hkl;exact (Option.some.inj hkl).symm
    subst ekl
    have ey:y1=.held (.agg #[.string t,.int .i64 k0,.string p0,.slice a0 m0 c0,.string z0]):=by
     have h9:uvR (mkV (t,k0,p0,a0,m0,c0,z0))=some (.held (.agg #[.string t,.int .i64 k0,.string p0,.slice a0 m0 c0,.string z0]),[]):=rfl
     rw[h9] at hy;cases hy;rfl
    subst ey
    have HQ:∃ tl:List UInt8,t=⟨tl.toArray⟩∧zh qs x=some tl:=by
     rcases HT2.out x hx with ⟨h9,_⟩ | ⟨tl,v',h9,_,h3,h4⟩
     · have h8:=HLQ.out x hx hlk
       rw[h9] at h8;cases h8
     · have e:=(hat (.held undef)).symm.trans (h3 (.held undef))
       obtain⟨k,p,a,m,c,z,rfl⟩:=h4
       simp at e
       exact⟨tl,e.1,h9⟩
    obtain⟨tl,rfl,hq⟩:=HQ
    have HFQ:Hid (zh qs x=some tl):=hq
    have hLF:zek ps qs left x=zh ps x:=if_pos hlk
    have HLQ4:Hid (∀ x':List UInt8,x'.length=32→(left (zn x') && !(zn x').sameKey (zn x))=true→(zh qs x').isSome=true):=fun x' hx' h=>HLQ.out x' hx' (by simp at h;exact h.1)
    have HPUT:Hid (Hid (TxtAt (D.put (zn x) (.held (.agg #[.string ⟨tl.toArray⟩,.int .i64 k0,.string p0,.slice a0 m0 c0,.string z0]))) (zek ps qs (fun z=>left z && !z.sameKey (zn x))))):=(za2d HTX.out hout.isMap x hx tl _ ⟨_,_,_,_,_,_,rfl⟩).congr (fun x' hx'=>by
     by_cases e:x'=x
     · subst e
       simp only[if_true]
       unfold zek
       rw[if_neg (by simp only[zhg x' x' hx' hx'];simp)]
       simp[zeb,HFQ.out]
     · simp only[if_neg e]
       unfold zek
       simp only[zhg x' x hx' hx,decide_eq_false e,Bool.not_false,Bool.and_true])
    have HSTEP:Hid ((∀ t'':List UInt8,zh ps x=some t''→t''=tl)→Hid (∀ x' t' t'':List UInt8,x'.length=32→(left (zn x') && !(zn x').sameKey (zn x))=false→zh qs x'=some t'→zh ps x'=some t''→t''=t')):=fun hag x' t' t'' hx' h h2 h3=>by
     by_cases e:x'=x
     · subst e
       have e2:tl=t':=by have:=HFQ.out.symm.trans h2;exact Option.some.inj this
       rw[←e2];exact hag t'' h3
     · rw[zhg x' x hx' hx,decide_eq_false e] at h
       simp at h
       exact HOLD.out x' t' t'' hx' h h2 h3
    have M4:Hid (w4.ownsMap Tryz.prog 99 uvR mb n1 D):=hout.kept hg4 (fun e=>by have:=Option.some.inj e;omega)
    have R4:Hid (w4.ranges Tryz.prog 99 uvR mc w2.heap.size qs.length D2 (fun z=>left z && !z.sameKey (zn x)) cnt4):=hrg4
    have BW4:Hid (Below w.heap.size w w4):=hnx.grown hg4 hnx.size (fun j hj=>by cases hj;exact B2.size)
    have HKY:Hid (keyOf Tryz.prog 99 (.agg (zg x).toArray)=some (zn x)):=zf9 x hx
    have hcs:(zg x).toArray.size=32:=by simp[zg,hx]
    have h1c:(zg x).toArray.all (·.oneCell')=true:=by
     rw[Array.all_eq_true];intro i hi;simp[zg,Value.oneCell']
    have HG5:Hid (∀ o1 o2:Obj,((w4.alloc o1).alloc o2).heap[wr.heap.size]? = some o1):=fun o1 o2=>(Below.heap_alloc _ _ _ (by simp;omega)).trans (by rw[←hs4];exact heap_alloc_new w4 o1)
    have HG6:Hid (∀ o1 o2:Obj,((w4.alloc o1).alloc o2).heap[wr.heap.size+1]? = some o2):=fun o1 o2=>by
     have:=heap_alloc_new (w4.alloc o1) o2
     rw[show (w4.alloc o1).heap.size=wr.heap.size+1 by simp;omega] at this
     exact this
    unfold mkK mkV at hen4
    unfold mkK mkV
    simp only at hen4 ⊢
    obtain⟨cs,hcd⟩:∃ cs,cs=(zg x).toArray:=⟨_,rfl⟩
    rw[←hcd] at hen4 HKY hcs h1c ⊢
    have HI:Hid ((Tryz.prog.info? 99).map (·.size)=some cs.size):=by rw[Hid,hcs];kernel_rfl
    have HI5:Hid ((Tryz.prog.info? 97).map (·.size)=some 5):=by rw[Hid];kernel_rfl
    have HTA:=HTX.out x hx
    rw[hLF] at HTA
    clear hcd hkl hat hrg4 hq hLF hy HTX HLQ HOLD HNC0 HA1 HA2
    rcases HTA with ⟨e1,e2⟩ | ⟨t',v',e1,e2,e3,e4⟩
    · have H1:Hid (Maps.has D (zn x)=false):=e2
      have H2:Hid (D.atKey (zn x) (.held (.agg #[.string ⟨#[]⟩,.int .i64 0,.string ⟨#[]⟩,.slice none 0 0,.string ⟨#[]⟩]))=.held (.agg #[.string ⟨#[]⟩,.int .i64 0,.string ⟨#[]⟩,.slice none 0 0,.string ⟨#[]⟩])):=Maps.atKey_of_not_has e2 _
      have HAG:Hid (∀ t'':List UInt8,zh ps x=some t''→t''=tl):=fun t'' h=>by rw[e1] at h;cases h
      clear e1 e2
      go_wp2_with (first
       | (refine ze5 rfl 99 _ _ rfl wr.heap.size cs rfl rfl 99 _ (HG5.out _ _) HI.out (by rw [hcs]; rfl) h1c ?_; intro w5 hL5
          have B5:Hid (Below w4.heap.size w4 w5):=hL5.below (((Below.refl _ _).alloc (Nat.le_refl _) _).alloc (by simp) _) (by omega)
          have Y5:Hid (w5.heap[wr.heap.size+1]? = some (.cells #[.string ⟨#[]⟩,.int .i64 0,.string ⟨#[]⟩,.slice none 0 0,.string ⟨#[]⟩] 97 (0,0))):=(hL5.other _ (by omega)).trans (HG6.out _ _)
          have S5:Hid (w5.heap.size=wr.heap.size+2):=by rw[Hid,hL5.size];simp;omega
          have X5:Hid (w5.heap[wr.heap.size]? = some (.cells cs 99 (0,0))):=hL5.row
          clear hL5)
       | (refine ze5 rfl 97 _ _ rfl (wr.heap.size + 1) #[.string ⟨tl.toArray⟩, .int .i64 k0, .string p0, .slice a0 m0 c0, .string z0] rfl rfl 97 _ Y5.out HI5.out rfl (by simp [Value.oneCell']) ?_; intro w6 hL6
          have B6:Hid (Below w4.heap.size w4 w6):=hL6.below B5.out (by omega)
          have Y6:Hid (w6.heap[wr.heap.size+1]? = some (.cells #[.string ⟨tl.toArray⟩,.int .i64 k0,.string p0,.slice a0 m0 c0,.string z0] 97 (0,0))):=hL6.row
          have X6:Hid (w6.heap[wr.heap.size]? = some (.cells cs 99 (0,0))):=(hL6.other _ (by omega)).trans X5.out
          have M6:Hid (w6.ownsMap Tryz.prog 99 uvR mb n1 D):=M4.out.kept (zc2 B6.out none) (by simp)
          have R6:Hid (w6.ranges Tryz.prog 99 uvR mc w2.heap.size qs.length D2 (fun z=>left z && !z.sameKey (zn x)) cnt4):=R4.out.kept (zc2 B6.out none) (by simp) (by simp)
          have X7:Hid ((w6.alloc (.cells #[.string ⟨#[]⟩,.int .i64 0,.string ⟨#[]⟩,.slice none 0 0,.string ⟨#[]⟩] 97)).heap[wr.heap.size]? = some (.cells cs 99 (0,0))):=(Below.heap_alloc _ _ _ (lt_of_block X6.out)).trans X6.out
          have Y7:Hid ((w6.alloc (.cells #[.string ⟨#[]⟩,.int .i64 0,.string ⟨#[]⟩,.slice none 0 0,.string ⟨#[]⟩] 97)).heap[wr.heap.size+1]? = some (.cells #[.string ⟨tl.toArray⟩,.int .i64 k0,.string p0,.slice a0 m0 c0,.string z0] 97 (0,0))):=(Below.heap_alloc _ _ _ (lt_of_block Y6.out)).trans Y6.out
          have M7:Hid ((w6.alloc (.cells #[.string ⟨#[]⟩,.int .i64 0,.string ⟨#[]⟩,.slice none 0 0,.string ⟨#[]⟩] 97)).ownsMap Tryz.prog 99 uvR mb n1 D):=M6.out.alloc _
          have R7:Hid ((w6.alloc (.cells #[.string ⟨#[]⟩,.int .i64 0,.string ⟨#[]⟩,.slice none 0 0,.string ⟨#[]⟩] 97)).ranges Tryz.prog 99 uvR mc w2.heap.size qs.length D2 (fun z=>left z && !z.sameKey (zn x)) cnt4):=R6.out.alloc _
          have B7:Hid (Below w4.heap.size w4 (w6.alloc (.cells #[.string ⟨#[]⟩,.int .i64 0,.string ⟨#[]⟩,.slice none 0 0,.string ⟨#[]⟩] 97))):=B6.out.alloc B6.out.size _
          obtain⟨q0,q1,q2,q3,q4,_⟩:=zd2 Y7.out
          clear hL6 B5 Y5 S5 X5)
       | (refine wpList_load_row rfl 99 _ rfl wr.heap.size rfl 99 cs (0,0) _ X6.out Tryz.underlying99 rfl HI.out ?_)
       | (refine wpList_load_row rfl 99 _ rfl wr.heap.size rfl 99 cs (0,0) _ X7.out Tryz.underlying99 rfl HI.out ?_)
       | (at_lookup;refine wpList_lookup_own_ok _ rfl _ _ 49 rfl 99 97 zda Tryz.underlying49 uvR (zi7 _) (.held (.agg #[.string ⟨#[]⟩,.int .i64 0,.string ⟨#[]⟩,.slice none 0 0,.string ⟨#[]⟩])) [] rfl mb n1 D rfl M6.out _ (zn x) rfl HKY.out ?_;intro vv qv hv;rw[H2.out] at hv;rw[H1.out];obtain rfl:=zi8 hv;clear hv)
       | (at_mapUpdate;refine wpList_mapUpdate_own _ rfl _ _ _ 49 rfl 99 97 zda Tryz.underlying49 uvR mb n1 D rfl M7.out (by unfold maxLen;omega) _ _ (zn x) rfl rfl HKY.out (.held (.agg #[.string ⟨tl.toArray⟩,.int .i64 k0,.string p0,.slice a0 m0 c0,.string z0])) [] rfl ?_;intro w8 hown8 hg8;go_frame)
       | go_in)
      have R8:=R7.out.kept hg8 (fun e=>by have:=Option.some.inj e;omega) (fun e=>by have:=Option.some.inj e;omega)
      have B8:Below w.heap.size w w8:=(BW4.out.trans (B7.out.mono BW4.out.size)).grown hg8 (Nat.le_trans BW4.out.size B7.out.size) (fun j hj=>by cases hj;exact hmb)
      have T8:=HPUT.out
      have O8:Hid (∀ x' t' t'':List UInt8,x'.length=32→(left (zn x') && !(zn x').sameKey (zn x))=false→zh qs x'=some t'→zh ps x'=some t''→t''=t'):=HSTEP.out (HAG.out)
      go_roundw
      case rel=>exact⟨_,cnt4,n1+1,_,R8,by omega,by omega,hown8,T8,HLQ4,O8,B8⟩
      case measure=>rw[R8.left_eq,hrg.left_eq];exact hlt4
    · obtain⟨fk,fp,fa,fm,fc,fz,rfl⟩:=e4
      have H1:Hid (Maps.has D (zn x)=true):=e2
      have H2:Hid (D.atKey (zn x) (.held (.agg #[.string ⟨#[]⟩,.int .i64 0,.string ⟨#[]⟩,.slice none 0 0,.string ⟨#[]⟩]))=.held (.agg #[.string ⟨t'.toArray⟩,.int .i64 fk,.string fp,.slice fa fm fc,.string fz])):=e3 _
      clear e2 e3
      by_cases het:t'=tl
      · subst het
        have HAG:Hid (∀ t'':List UInt8,zh ps x=some t''→t''=t'):=fun t'' h=>by rw[e1] at h;exact (Option.some.inj h).symm
        clear e1
        go_wp2_with (first
         | (refine ze5 rfl 99 _ _ rfl wr.heap.size cs rfl rfl 99 _ (HG5.out _ _) HI.out (by rw [hcs]; rfl) h1c ?_; intro w5 hL5
            have B5:Hid (Below w4.heap.size w4 w5):=hL5.below (((Below.refl _ _).alloc (Nat.le_refl _) _).alloc (by simp) _) (by omega)
            have Y5:Hid (w5.heap[wr.heap.size+1]? = some (.cells #[.string ⟨#[]⟩,.int .i64 0,.string ⟨#[]⟩,.slice none 0 0,.string ⟨#[]⟩] 97 (0,0))):=(hL5.other _ (by omega)).trans (HG6.out _ _)
            have S5:Hid (w5.heap.size=wr.heap.size+2):=by rw[Hid,hL5.size];simp;omega
            have X5:Hid (w5.heap[wr.heap.size]? = some (.cells cs 99 (0,0))):=hL5.row
            clear hL5)
         | (refine ze5 rfl 97 _ _ rfl (wr.heap.size + 1) #[.string ⟨t'.toArray⟩, .int .i64 k0, .string p0, .slice a0 m0 c0, .string z0] rfl rfl 97 _ Y5.out HI5.out rfl (by simp [Value.oneCell']) ?_; intro w6 hL6
            have B6:Hid (Below w4.heap.size w4 w6):=hL6.below B5.out (by omega)
            have Y6:Hid (w6.heap[wr.heap.size+1]? = some (.cells #[.string ⟨t'.toArray⟩,.int .i64 k0,.string p0,.slice a0 m0 c0,.string z0] 97 (0,0))):=hL6.row
            have X6:Hid (w6.heap[wr.heap.size]? = some (.cells cs 99 (0,0))):=(hL6.other _ (by omega)).trans X5.out
            have M6:Hid (w6.ownsMap Tryz.prog 99 uvR mb n1 D):=M4.out.kept (zc2 B6.out none) (by simp)
            have R6:Hid (w6.ranges Tryz.prog 99 uvR mc w2.heap.size qs.length D2 (fun z=>left z && !z.sameKey (zn x)) cnt4):=R4.out.kept (zc2 B6.out none) (by simp) (by simp)
            have X7:Hid ((w6.alloc (.cells #[.string ⟨t'.toArray⟩,.int .i64 fk,.string fp,.slice fa fm fc,.string fz] 97)).heap[wr.heap.size]? = some (.cells cs 99 (0,0))):=(Below.heap_alloc _ _ _ (lt_of_block X6.out)).trans X6.out
            have Y7:Hid ((w6.alloc (.cells #[.string ⟨t'.toArray⟩,.int .i64 fk,.string fp,.slice fa fm fc,.string fz] 97)).heap[wr.heap.size+1]? = some (.cells #[.string ⟨t'.toArray⟩,.int .i64 k0,.string p0,.slice a0 m0 c0,.string z0] 97 (0,0))):=(Below.heap_alloc _ _ _ (lt_of_block Y6.out)).trans Y6.out
            have M7:Hid ((w6.alloc (.cells #[.string ⟨t'.toArray⟩,.int .i64 fk,.string fp,.slice fa fm fc,.string fz] 97)).ownsMap Tryz.prog 99 uvR mb n1 D):=M6.out.alloc _
            have R7:Hid ((w6.alloc (.cells #[.string ⟨t'.toArray⟩,.int .i64 fk,.string fp,.slice fa fm fc,.string fz] 97)).ranges Tryz.prog 99 uvR mc w2.heap.size qs.length D2 (fun z=>left z && !z.sameKey (zn x)) cnt4):=R6.out.alloc _
            have B7:Hid (Below w4.heap.size w4 (w6.alloc (.cells #[.string ⟨t'.toArray⟩,.int .i64 fk,.string fp,.slice fa fm fc,.string fz] 97))):=B6.out.alloc B6.out.size _
            obtain⟨q0,q1,q2,q3,q4,_⟩:=zd2 Y7.out
            clear hL6 B5 Y5 S5 X5)
         | (refine wpList_load_row rfl 99 _ rfl wr.heap.size rfl 99 cs (0,0) _ X6.out Tryz.underlying99 rfl HI.out ?_)
         | (refine wpList_load_row rfl 99 _ rfl wr.heap.size rfl 99 cs (0,0) _ X7.out Tryz.underlying99 rfl HI.out ?_)
         | (at_lookup;refine wpList_lookup_own_ok _ rfl _ _ 49 rfl 99 97 zda Tryz.underlying49 uvR (zi7 _) (.held (.agg #[.string ⟨#[]⟩,.int .i64 0,.string ⟨#[]⟩,.slice none 0 0,.string ⟨#[]⟩])) [] rfl mb n1 D rfl M6.out _ (zn x) rfl HKY.out ?_;intro vv qv hv;rw[H2.out] at hv;rw[H1.out];obtain rfl:=zi8 hv;clear hv)
         | (at_mapUpdate;refine wpList_mapUpdate_own _ rfl _ _ _ 49 rfl 99 97 zda Tryz.underlying49 uvR mb n1 D rfl M7.out (by unfold maxLen;omega) _ _ (zn x) rfl rfl HKY.out (.held (.agg #[.string ⟨t'.toArray⟩,.int .i64 k0,.string p0,.slice a0 m0 c0,.string z0])) [] rfl ?_;intro w8 hown8 hg8;go_frame)
         | go_in)
        have R8:=R7.out.kept hg8 (fun e=>by have:=Option.some.inj e;omega) (fun e=>by have:=Option.some.inj e;omega)
        have B8:Below w.heap.size w w8:=(BW4.out.trans (B7.out.mono BW4.out.size)).grown hg8 (Nat.le_trans BW4.out.size B7.out.size) (fun j hj=>by cases hj;exact hmb)
        have T8:=HPUT.out
        have O8:Hid (∀ x' t' t'':List UInt8,x'.length=32→(left (zn x') && !(zn x').sameKey (zn x))=false→zh qs x'=some t'→zh ps x'=some t''→t''=t'):=HSTEP.out (HAG.out)
        go_roundw
        case rel=>exact⟨_,cnt4,n1+1,_,R8,by omega,by omega,hown8,T8,HLQ4,O8,B8⟩
        case measure=>rw[R8.left_eq,hrg.left_eq];exact hlt4
      · have hetb:(t' == tl)=false:=by rw[beq_eq_false_iff_ne];exact het
        have HZZ:Hid (za3 ps qs=false):=zst ps qs (za2g ps qs (zdu qs HST.out.2) x tl t' HFQ.out e1 het)
        clear e1
        go_wp2_with (first
         | (refine ze5 rfl 99 _ _ rfl wr.heap.size cs rfl rfl 99 _ (HG5.out _ _) HI.out (by rw [hcs]; rfl) h1c ?_; intro w5 hL5
            have B5:Hid (Below w4.heap.size w4 w5):=hL5.below (((Below.refl _ _).alloc (Nat.le_refl _) _).alloc (by simp) _) (by omega)
            have Y5:Hid (w5.heap[wr.heap.size+1]? = some (.cells #[.string ⟨#[]⟩,.int .i64 0,.string ⟨#[]⟩,.slice none 0 0,.string ⟨#[]⟩] 97 (0,0))):=(hL5.other _ (by omega)).trans (HG6.out _ _)
            have S5:Hid (w5.heap.size=wr.heap.size+2):=by rw[Hid,hL5.size];simp;omega
            have X5:Hid (w5.heap[wr.heap.size]? = some (.cells cs 99 (0,0))):=hL5.row
            clear hL5)
         | (refine ze5 rfl 97 _ _ rfl (wr.heap.size + 1) #[.string ⟨tl.toArray⟩, .int .i64 k0, .string p0, .slice a0 m0 c0, .string z0] rfl rfl 97 _ Y5.out HI5.out rfl (by simp [Value.oneCell']) ?_; intro w6 hL6
            have B6:Hid (Below w4.heap.size w4 w6):=hL6.below B5.out (by omega)
            have Y6:Hid (w6.heap[wr.heap.size+1]? = some (.cells #[.string ⟨tl.toArray⟩,.int .i64 k0,.string p0,.slice a0 m0 c0,.string z0] 97 (0,0))):=hL6.row
            have X6:Hid (w6.heap[wr.heap.size]? = some (.cells cs 99 (0,0))):=(hL6.other _ (by omega)).trans X5.out
            have M6:Hid (w6.ownsMap Tryz.prog 99 uvR mb n1 D):=M4.out.kept (zc2 B6.out none) (by simp)
            have R6:Hid (w6.ranges Tryz.prog 99 uvR mc w2.heap.size qs.length D2 (fun z=>left z && !z.sameKey (zn x)) cnt4):=R4.out.kept (zc2 B6.out none) (by simp) (by simp)
            have X7:Hid ((w6.alloc (.cells #[.string ⟨t'.toArray⟩,.int .i64 fk,.string fp,.slice fa fm fc,.string fz] 97)).heap[wr.heap.size]? = some (.cells cs 99 (0,0))):=(Below.heap_alloc _ _ _ (lt_of_block X6.out)).trans X6.out
            have Y7:Hid ((w6.alloc (.cells #[.string ⟨t'.toArray⟩,.int .i64 fk,.string fp,.slice fa fm fc,.string fz] 97)).heap[wr.heap.size+1]? = some (.cells #[.string ⟨tl.toArray⟩,.int .i64 k0,.string p0,.slice a0 m0 c0,.string z0] 97 (0,0))):=(Below.heap_alloc _ _ _ (lt_of_block Y6.out)).trans Y6.out
            have M7:Hid ((w6.alloc (.cells #[.string ⟨t'.toArray⟩,.int .i64 fk,.string fp,.slice fa fm fc,.string fz] 97)).ownsMap Tryz.prog 99 uvR mb n1 D):=M6.out.alloc _
            have R7:Hid ((w6.alloc (.cells #[.string ⟨t'.toArray⟩,.int .i64 fk,.string fp,.slice fa fm fc,.string fz] 97)).ranges Tryz.prog 99 uvR mc w2.heap.size qs.length D2 (fun z=>left z && !z.sameKey (zn x)) cnt4):=R6.out.alloc _
            have B7:Hid (Below w4.heap.size w4 (w6.alloc (.cells #[.string ⟨t'.toArray⟩,.int .i64 fk,.string fp,.slice fa fm fc,.string fz] 97))):=B6.out.alloc B6.out.size _
            obtain⟨q0,q1,q2,q3,q4,_⟩:=zd2 Y7.out
            clear hL6 B5 Y5 S5 X5)
         | (refine wpList_load_row rfl 99 _ rfl wr.heap.size rfl 99 cs (0,0) _ X6.out Tryz.underlying99 rfl HI.out ?_)
         | (refine wpList_load_row rfl 99 _ rfl wr.heap.size rfl 99 cs (0,0) _ X7.out Tryz.underlying99 rfl HI.out ?_)
         | (at_lookup;refine wpList_lookup_own_ok _ rfl _ _ 49 rfl 99 97 zda Tryz.underlying49 uvR (zi7 _) (.held (.agg #[.string ⟨#[]⟩,.int .i64 0,.string ⟨#[]⟩,.slice none 0 0,.string ⟨#[]⟩])) [] rfl mb n1 D rfl M6.out _ (zn x) rfl HKY.out ?_;intro vv qv hv;rw[H2.out] at hv;rw[H1.out];obtain rfl:=zi8 hv;clear hv)
         | go_in)
        go_ret2
        exact zf3 HZZ.out (BW4.out.trans (B7.out.mono BW4.out.size))
end Go.Proofs.YtiadimhoolekbaaGreatDoor
