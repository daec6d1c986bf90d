/-
 Texts that are laid as one: MathSess, SessS, Rep, SessOk.
-/
import Derived.Test.YtppljdnbhoeeoaaGreatDoorBats
import Derived.Test.YtppljdnbhoeeoaaGreatDoorSortAll
namespace Go.Proofs.YtppljdnbhoeeoaaGreatDoor
open Go.RowKit
set_option linter.unusedVariables false
set_option maxHeartbeats 16000000
set_option maxRecDepth 100000
abbrev zg:=Int × Int
def zl:List zg→List Value
 | []=>[]
 | p :: ps=>.int .i64 p.1 :: .int .i64 p.2 :: zl ps
theorem zer (ps:List zg):(zl ps).length=ps.length*2:=by
 induction ps with
 | nil=>rfl
 | cons p ps ih=>simp[zl,ih];omega
theorem zfl (a b:List zg):zl (a ++ b)=zl a ++ zl b:=by
 induction a with
 | nil=>rfl
 | cons p ps ih=>simp[zl,ih]
theorem zkz (ps:List zg) (j:Nat) (h:j<ps.length):(zl ps)[j*2]? = some (.int .i64 ps[j].1)∧(zl ps)[j*2+1]? = some (.int .i64 ps[j].2):=by
 induction ps generalizing j with
 | nil=>simp at h
 | cons p ps ih =>
   match j,h with
   | 0,_=>exact⟨rfl,rfl⟩
   | j + 1, h =>
     have:=ih j (by simpa using h)
     have e:(j+1)*2=j*2+1+1:=by omega
     rw[e]
     simpa [zl] using this
def IsSess (w:World) (a:Option Addr) (ps:List zg):Prop :=
 ps=[]∨∃ b off,a=some ⟨b,off,none⟩∧∀ j (h:j<ps.length),w.cell? ⟨b,off+j*2,none⟩=some (.int .i64 ps[j].1)∧w.cell? ⟨b,off+j*2+1,none⟩=some (.int .i64 ps[j].2)
theorem IsSess.later {w w':World} {a:Option Addr} {ps:List zg} (h:IsSess w a ps) (hb:Below w.heap.size w w'):IsSess w' a ps:=by
 rcases h with h | ⟨b,off,h1,h2⟩
 · exact .inl h
 · exact .inr ⟨b,off,h1,fun j h=>⟨(hb.cell (p:=⟨b,off+j*2,none⟩) (World.block_lt_of_cell? w _ (h2 j h).1)).trans (h2 j h).1,(hb.cell (p:=⟨b,off+j*2+1,none⟩) (World.block_lt_of_cell? w _ (h2 j h).2)).trans (h2 j h).2⟩⟩
theorem zcl {w:World} {base e n:Nat} {a:Option Addr} {m cap:Nat} {ps:List zg} (h:w.ownsRow base e 2 (.slice a m cap) n (zl ps)):m=ps.length∧n=ps.length∧IsSess w a ps:=by
 have hl:ps.length=n:=by have:=h.1;rw[zer] at this;omega
 rcases h.2 with ⟨h',h0⟩ | ⟨g,cap',cur,h',_⟩
 · cases h'
   exact⟨by omega,by omega,.inl (List.length_eq_zero_iff.1 (by omega))⟩
 · cases h'
   exact⟨by omega,by omega,.inr ⟨g,0,rfl,fun j hj=>by
    rw[Nat.zero_add,h.cellAt (j*2) (by omega),h.cellAt (j*2+1) (by omega)]
    exact zkz ps j hj⟩⟩
def zdl (ps:List zg) (j:Nat):List Value:=zl (ps.take j) ++ List.replicate ((ps.length - j)*2) (.int .i64 0)
theorem za0s (ps:List zg) (j:Nat) (h:j≤ps.length):(zdl ps j).length=ps.length*2:=by
 simp[zdl,zer,Nat.min_eq_left h]
 try omega
theorem za0t (ps:List zg):zdl ps ps.length=zl ps:=by simp[zdl]
theorem za0u (ps:List zg):zdl ps 0=List.replicate (ps.length*2) (.int .i64 0):=by simp[zdl,zl]
theorem zqj (ps:List zg) (j:Nat) (h:j<ps.length):ps.take (j+1)=ps.take j ++ [ps[j]]:=by rw[List.take_succ_eq_append_getElem h]
theorem za0v (ps:List zg) (j:Nat) (h:j<ps.length):((zdl ps j).set (j*2) (.int .i64 ps[j].1)).set (j*2+1) (.int .i64 ps[j].2)=zdl ps (j+1):=by
 have hl:(zl (ps.take j)).length=j*2:=by rw[zer,List.length_take];omega
 have e:(ps.length - j)*2=(ps.length - (j+1))*2+1+1:=by omega
 simp only[zdl,zqj ps j h,zfl,e,List.replicate_succ]
 rw[List.set_append_right _ _ (by omega),hl,Nat.sub_self,List.set_append_right _ _ (by omega),hl]
 simp[zl]
def zbp (k n:Nat):List zg:=(List.range n).map fun i=>(((k+2*i:Nat):Int),((k+2*i+1:Nat):Int))
theorem zl0 (k n:Nat):(zbp k n).length=n:=by simp[zbp]
theorem za0w (k n j:Nat) (h:j<(zbp k n).length):(zbp k n)[j]=(((k+2*j:Nat):Int),((k+2*j+1:Nat):Int)):=by simp[zbp]
theorem za0x (k j:Nat):zbp k (j+1)=zbp k j ++ [(((k+2*j:Nat):Int),((k+2*j+1:Nat):Int))]:=by simp[zbp,List.range_succ]
def zcy (k j:Nat) (ps:List zg):List Value:=zl (zbp k j) ++ zl (ps.drop j)
theorem za0y (k:Nat) (ps:List zg):zcy k 0 ps=zl ps:=by simp[zcy,zbp,zl]
theorem za0z (k:Nat) (ps:List zg):zcy k ps.length ps=zl (zbp k ps.length):=by simp[zcy,zl]
theorem za10 (k j:Nat) (ps:List zg) (h:j≤ps.length):(zcy k j ps).length=ps.length*2:=by simp[zcy,zer,zl0];omega
theorem za11 (k j:Nat) (ps:List zg) (h:j<ps.length):((zcy k j ps).set (j*2) (.int .i64 ((k+2*j:Nat):Int))).set (j*2+1) (.int .i64 ((k+2*j+1:Nat):Int))=zcy k (j+1) ps:=by
 have hl:(zl (zbp k j)).length=j*2:=by rw[zer,zl0]
 have e:ps.drop j=ps[j] :: ps.drop (j+1):=by rw[List.drop_eq_getElem_cons h]
 simp only[zcy,za0x,zfl,e,zl]
 rw[List.set_append_right _ _ (by omega),hl,Nat.sub_self,List.set_append_right _ _ (by omega),hl]
 simp
theorem za12 (n:Nat):(madeCells (Value.agg #[.int .i64 0,.int .i64 0]).cells (n*2)).toList=List.replicate (n*2) (.int .i64 0):=by
 apply List.ext_getElem?
 intro j
 by_cases hj:j<n*2
 · rcases Nat.mod_two_eq_zero_or_one j with h | h <;> simp[madeCells,hj,Value.cells,h]
 · simp[madeCells,hj]
open Go.ChangeShapes Go.WideShapes Go.ChangeAt Go.RowKit
theorem zi7:(Tryz.prog.info? 62).map (fun i=>(i.zero,i.size,i.bytes))=some (some (.agg #[.int .i64 0,.int .i64 0]),2,16):=by kernel_rfl
def zi8:Value→Int
 | .int _ n=>n
 | _=>0
theorem za13 {H:Type} {enc:TypeId × Value→H} {W:World} {fuel:Nat} {u:Value} {y:DataW H × List MemPlace} (hf:DataW.trod enc Tryz.prog W 0 (fun _=>true) true fuel 23 [u]=some y) :
 ∃ (a:Option Addr) (ss:List zg) (cap:Nat),u=.slice a ss.length cap∧IsSess W a ss∧ss.length≤9223372036854775807:=by
 rcases Go.Deep.open_slice_pairs Tryz.underlying23 Tryz.underlying93 (by kernel_rfl) rfl rfl (by kernel_rfl) (by kernel_rfl) hf with ⟨hcs,_⟩ | ⟨a,len,cap,m,n,V0,V1,D0,D1,P0,P1,hcs,_,hl,hm,hmm,_,hx⟩
 · simp at hcs
   exact⟨none,[],0,hcs,.inl rfl,by simp⟩
 · simp at hcs
   unfold maxLen at hm
   simp only[if_true] at hmm
   have each:∀ i,i<len→W.cell? (a.add (i*2))=some (.int .i64 (zi8 (V0 i)))∧W.cell? (a.add (i*2+1))=some (.int .i64 (zi8 (V1 i))):=by
    intro i hi
    obtain⟨e0,e1,t0,t1⟩:=hx i (by omega)
    obtain⟨s0,hs0,_,_⟩:=DataW.trod_int Tryz.underlying2 t0
    obtain⟨s1,hs1,_,_⟩:=DataW.trod_int Tryz.underlying2 t1
    simp at hs0 hs1
    rw[hs0] at e0 ⊢
    rw[hs1] at e1 ⊢
    exact⟨e0,e1⟩
   refine⟨some a,(List.range len).map (fun i=>(zi8 (V0 i),zi8 (V1 i))),cap,by rw[hcs];simp,?_,by simp;omega⟩
   by_cases h0:len=0
   · exact .inl (by simp[h0])
   · obtain⟨b,off,spot⟩:=a
     have hc:=(each 0 (by omega)).1
     have hspot:spot=none:=by simpa [Addr.add] using World.cell?_spot hc
     subst hspot
     refine .inr ⟨b,off,rfl,fun j hj=>?_⟩
     simp at hj
     have hcj:=each j hj
     have e1:(⟨b,off,none⟩:Addr).add (j*2)=⟨b,off+j*2,none⟩:=by simp[Addr.add]
     have e2:(⟨b,off,none⟩:Addr).add (j*2+1)=⟨b,off+j*2+1,none⟩:=by simp[Addr.add,Nat.add_assoc]
     rw[e1,e2] at hcj
     simp only[List.getElem_map,List.getElem_range]
     exact⟨hcj.1,hcj.2⟩
theorem za14 (k v:Int) (w:World) :
 Calls Tryz.prog 53 #[.agg #[.int .i64 k,.int .i64 v]] w fun e w'=>e=.returned (.agg #[.int .i64 k,.int .i64 v])∧Below w.heap.size w w':=by
 go_enter Tryz.func53,Tryz.ntmps53
 go_wp2
 have hb:(((w.alloc (.cells #[.int .i64 k,.int .i64 v] 93)).alloc (.cells #[.int .i64 k,.int .i64 v] 62)).alloc (.cells #[.int .i64 k,.int .i64 v] 62)).heap[w.heap.size+1]? = some (.cells #[.int .i64 k,.int .i64 v] 62 (0,0)):=by
  rw[Below.heap_alloc _ _ _ (by simp)]
  have:=heap_alloc_new (w.alloc (.cells #[.int .i64 k,.int .i64 v] 93)) (.cells #[.int .i64 k,.int .i64 v] 62)
  simpa using this
 exact bodyPost_ret (v:=.agg #[.int .i64 k,.int .i64 v]) (results_cell_row rfl _ _ (w.heap.size+1) 62 _ (0,0) _ rfl hb Tryz.underlying62 rfl (by kernel_rfl)) rfl ⟨rfl,(((Below.refl _ _).alloc (Nat.le_refl _) _).alloc (by simp) _).alloc (by simp;omega) _⟩
theorem za15 (L n:Nat) (hL:L≤1048576) (hn:n≤9223372036854775807) (a:Option Addr) (cap:Nat) (w:World) :
 Calls Tryz.prog 16 #[.slice a n cap,.int .i64 (L:Int)] w fun e w'=>(e=.returned (.int .i64 (-1))∨(n≤L∧∃ m:Nat,m≤L∧e=.returned (.int .i64 (m:Int))))∧Below w.heap.size w w':=by
 by_cases hb:n≤L
 · have hb':(n:Int)≤(L:Int):=by omega
   have HE:Hid ((L:Int) - (n:Int)=((L - n:Nat):Int)):=by rw[Hid];omega
   go_enter Tryz.func16,Tryz.ntmps16
   go_wp2
   go_ret
   exact⟨.inr ⟨hb,L - n,by omega,by rw[←HE.out];rfl⟩,Below.refl _ _⟩
 · have hb':¬ (n:Int)≤(L:Int):=by omega
   go_enter Tryz.func16,Tryz.ntmps16
   go_wp2
   go_ret
   first | exact⟨.inl rfl,Below.refl _ _⟩ | exact⟨rfl,Below.refl _ _⟩
theorem za16 (a:Option Addr) (cap:Nat) (ps:List zg) (w:World) (hl:ps.length≤1048576) (hs:IsSess w a ps) :
 Calls Tryz.prog 21 #[.slice a ps.length cap] w fun e w'=>e=.returned (.slice (some ⟨w.heap.size,0,none⟩) ps.length ps.length)∧w'.ownsRow w.heap.size 62 2 (.slice (some ⟨w.heap.size,0,none⟩) ps.length ps.length) ps.length (zl ps)∧Below w.heap.size w w':=by
 obtain⟨i0,hi0,hz0,hz1,hz2⟩:=info_parts zi7
 go_enter Tryz.func21,Tryz.ntmps21
 go_wp2_with (at_make;refine wpList_make_full _ rfl _ _ 32 rfl w.heap.size 62 i0 (.agg #[.int .i64 0,.int .i64 0]) 2 Tryz.underlying32 hi0 hz0 hz1 _ _ _ _ ps.length rfl rfl (by omega) (by omega) (by rw[hz2];omega) (by unfold maxLen;omega) (Nat.le_refl _) ?_;intro w0 hown0 hgrow0)
 rw[za12] at hown0
 have hb0:=(Below.refl w.heap.size w).grown hgrow0 (Nat.le_refl _) (by simp)
 have hs0:=hgrow0.size
 rcases hs with rfl | ⟨b,off,rfl,hc⟩
 · refine wp_loop_rounds 1 ?_
   rw[rounds_succ]
   go_wp2
   go_ret
   exact⟨rfl,hown0,hb0⟩
 · clear hgrow0
   go_loopw [4] (fun i wr=>∃ j:Nat,j≤ps.length∧i=.int .i64 (j:Int)∧wr.ownsRow w.heap.size 62 2 (.slice (some ⟨w.heap.size,0,none⟩) ps.length ps.length) ps.length (zdl ps j)∧Below w.heap.size w wr) (fun i _=>ps.length - (intOf i).toNat)
   case atStart=>exact⟨0,Nat.zero_le _,rfl,by rw[za0u];exact hown0,hb0⟩
   case round =>
    obtain⟨j,hj,rfl,hown,hbel⟩:=hrel
    have hsz:=hbel.size
    by_cases hlt:j<ps.length
    · have hbl:=World.block_lt_of_cell? w _ (hc j hlt).1
      have c1:=(hbel.cell (p:=⟨b,off+j*2,none⟩) hbl).trans (hc j hlt).1
      have c2:=(hbel.cell (p:=⟨b,off+j*2+1,none⟩) hbl).trans (hc j hlt).2
      simp only at hbl
      have hlt2:=zci hown
      have HL2:Hid _:=za0v ps j hlt
      have hj0:(0:Int)≤(j:Int):=by omega
      have hj1:(j:Int)<(ps.length:Int):=by omega
      have HOW:=zc hown
      have HLEN:Hid _:=za0s ps j (by omega)
      obtain⟨x,hx⟩:∃ x,x=ps[j].1:=⟨_,rfl⟩
      obtain⟨y,hy⟩:∃ y,y=ps[j].2:=⟨_,rfl⟩
      rw[←hx] at c1 HL2
      rw[←hy] at c2 HL2
      have K:=za14 x y wr
      clear hc hx hy hown hown0 hb0
      go_wp2_with fail
      refine K.mono ?_
      rintro e w1 ⟨rfl,b1⟩
      have hO1:=zaj HOW.out b1
      obtain⟨o1,ho1⟩:∃ o,w1.cell? ⟨w.heap.size,j*2,none⟩=some o:=by rw[hO1.cellAt (j*2) (by omega)];exact⟨_,List.getElem?_eq_getElem (by rw[HLEN.out];omega)⟩
      obtain⟨o2,ho2⟩:∃ o,w1.cell? ⟨w.heap.size,j*2+1,none⟩=some o:=by rw[hO1.cellAt (j*2+1) (by omega)];exact⟨_,List.getElem?_eq_getElem (by rw[HLEN.out];omega)⟩
      have hf1:=hO1.frozenAt (j*2)
      have hf2:=hO1.frozenAt (j*2+1)
      have hst:=((hO1.stored (j*2) (.int .i64 x)).1.stored (j*2+1) (.int .i64 y)).1
      rw[HL2.out] at hst
      have HS2:=zc hst
      have hb2:=((hbel.trans (b1.mono hsz)).setCell (p:=⟨w.heap.size,j*2,none⟩) (Nat.le_refl _) (.int .i64 x)).setCell (p:=⟨w.heap.size,j*2+1,none⟩) (Nat.le_refl _) (.int .i64 y)
      clear hO1 b1 hst HOW HL2 K
      go_wp2
      go_roundw
      case rel=>exact⟨j+1,by omega,by go_num,HS2.out,hb2⟩
      case measure=>simp[intOf];omega
    · have hjl:j=ps.length:=by omega
      subst hjl
      rw[za0t] at hown
      clear hown0 hb0
      go_wp2
      go_ret
      exact⟨rfl,hown,hbel⟩
theorem za17 (k v:Int) (w:World) :
 Calls Tryz.prog 67 #[.agg #[.int .i64 k,.int .i64 v],.agg #[.int .i64 k,.int .i64 v]] w fun e w'=>e=.returned (.bool true)∧Below w.heap.size w w':=by
 go_enter Tryz.func67,Tryz.ntmps67
 go_wp2
 go_ret
 exact⟨rfl,((Below.refl _ _).alloc (Nat.le_refl _) _).alloc (by simp) _⟩
theorem za18 (ps : List zg) (a c : Option Addr) (n m : Nat) (w : World) (hl : ps.length ≤ 16777216) (hu : IsSess w a ps) (hv : IsSess w c ps) :
 Calls Tryz.prog 32 #[.slice a ps.length n,.slice c ps.length m] w fun e w'=>e=.returned (.bool true)∧Below w.heap.size w w':=by
 rcases hu with rfl | ⟨b,off,rfl,h1⟩
 · go_enter Tryz.func32,Tryz.ntmps32
   go_wp2
   refine wp_loop_rounds 1 ?_
   rw[rounds_succ]
   go_wp2
   go_ret
   exact⟨rfl,Below.refl _ _⟩
 · rcases hv with rfl | ⟨d,of2,rfl,h2⟩
   · go_enter Tryz.func32,Tryz.ntmps32
     go_wp2
     refine wp_loop_rounds 1 ?_
     rw[rounds_succ]
     go_wp2
     go_ret
     exact⟨rfl,Below.refl _ _⟩
   · go_enter Tryz.func32,Tryz.ntmps32
     go_wp2
     go_loopw [5] (fun i wr=>∃ j:Nat,j≤ps.length∧i=.int .i64 (j:Int)∧Below w.heap.size w wr) (fun i _=>ps.length - (intOf i).toNat)
     case atStart=>exact⟨0,Nat.zero_le _,rfl,Below.refl _ _⟩
     case round =>
      obtain⟨j,hj,rfl,hbel⟩:=hrel
      have hsz:=hbel.size
      by_cases hlt:j<ps.length
      · have c1:=(hbel.cell (p:=⟨b,off+j*2,none⟩) (World.block_lt_of_cell? w _ (h1 j hlt).1)).trans (h1 j hlt).1
        have c2:=(hbel.cell (p:=⟨b,off+j*2+1,none⟩) (World.block_lt_of_cell? w _ (h1 j hlt).2)).trans (h1 j hlt).2
        have d1:=(hbel.cell (p:=⟨d,of2+j*2,none⟩) (World.block_lt_of_cell? w _ (h2 j hlt).1)).trans (h2 j hlt).1
        have d2:=(hbel.cell (p:=⟨d,of2+j*2+1,none⟩) (World.block_lt_of_cell? w _ (h2 j hlt).2)).trans (h2 j hlt).2
        have hj0:(0:Int)≤(j:Int):=by omega
        have hj1:(j:Int)<(ps.length:Int):=by omega
        obtain⟨x,hx⟩:∃ x,x=ps[j].1:=⟨_,rfl⟩
        obtain⟨y,hy⟩:∃ y,y=ps[j].2:=⟨_,rfl⟩
        rw[←hx] at c1 d1
        rw[←hy] at c2 d2
        have K:=fun W=>za17 x y W
        clear h1 h2 hx hy
        go_wp2_with fail
        go_region_held3 (fun w'=>w'.cell? ⟨b,off+j*2,none⟩=some (.int .i64 x)∧w'.cell? ⟨b,off+j*2+1,none⟩=some (.int .i64 y)∧w'.cell? ⟨d,of2+j*2,none⟩=some (.int .i64 x)∧w'.cell? ⟨d,of2+j*2+1,none⟩=some (.int .i64 y))
         (first | (exact⟨by assumption,by assumption,by assumption,by assumption⟩) | go_keep)
         ((go_at_call 67
           refine (K _).mono ?_
           rintro e w1 ⟨rfl,b1'⟩
           have b1:Below wr.heap.size wr w1:=⟨b1'.os,b1'.tape,b1'.output,b1'.size,b1'.block⟩
           have x1:=(b1.cell (p:=⟨b,off+j*2,none⟩) (World.block_lt_of_cell? wr _ c1)).trans c1
           have x2:=(b1.cell (p:=⟨b,off+j*2+1,none⟩) (World.block_lt_of_cell? wr _ c2)).trans c2
           have y1:=(b1.cell (p:=⟨d,of2+j*2,none⟩) (World.block_lt_of_cell? wr _ d1)).trans d1
           have y2:=(b1.cell (p:=⟨d,of2+j*2+1,none⟩) (World.block_lt_of_cell? wr _ d2)).trans d2
           have B1:=hbel.trans (b1.mono hsz)))
        all_goals
         clear K
         go_wp2
         go_roundw
         case rel=>exact⟨j+1,by omega,by go_num,B1⟩
         case measure=>simp[intOf];omega
      · go_wp2
        go_ret
        exact⟨rfl,hbel⟩
theorem za19 (ps:List zg) (a:Option Addr) (m cap b1 k:Nat) (w:World) (hl:ps.length≤4000000) (hk:0<k) (hk2:k≤8000000) (hv:w.ownsRow b1 62 2 (.slice a m cap) ps.length (zl ps)) :
 Calls Tryz.prog 35 #[.slice a m cap,.int .i64 k] w fun e w'=>e=.returned (.int .i64 ((k:Int)+2*(ps.length:Int)))∧w'.ownsRow b1 62 2 (.slice a m cap) ps.length (zl (zbp k ps.length))∧w.grownBy w' (Value.slice a m cap).ownBlock:=by
 rcases zc9 hv with ⟨hv0,hn,hx⟩ | ⟨g,cap',hv0,hg1,hg2,hc,hf⟩
 · cases hv0
   have hls:ps=[]:=List.length_eq_zero_iff.1 hn
   subst hls
   go_enter Tryz.func35,Tryz.ntmps35
   go_wp2
   refine wp_loop_rounds 1 ?_
   rw[rounds_succ]
   go_wp2
   go_ret
   exact⟨by simp,hv,World.grownBy.refl _ _⟩
 · cases hv0
   clear hc hf
   go_enter Tryz.func35,Tryz.ntmps35
   go_wp2
   go_loopw [1,5] (fun mm i wr=>∃ j:Nat,j≤ps.length∧i=.int .i64 (j:Int)∧mm=.int .i64 ((k+2*j:Nat):Int)∧wr.ownsRow b1 62 2 (.slice (some ⟨g,0,none⟩) ps.length cap) ps.length (zcy k j ps)∧w.grownBy wr (some g)) (fun _ i _=>ps.length - (intOf i).toNat)
   case atStart=>exact⟨0,Nat.zero_le _,rfl,rfl,by rw[za0y];exact hv,World.grownBy.refl _ _⟩
   case round =>
    obtain⟨j,hj,rfl,rfl,hown,hgr⟩:=hrel
    by_cases hlt:j<ps.length
    · have hj1:(j:Int)<(ps.length:Int):=by omega
      have hj0:(0:Int)≤(j:Int):=by omega
      have HLEN:Hid _:=za10 k j ps (by omega)
      have HSTEP:Hid (((zcy k j ps).set (j*2) (.int .i64 ((k+2*j:Nat):Int))).set (j*2+1) (.int .i64 (((k+2*j:Nat):Int)+1))=zcy k (j+1) ps):=by rw[Hid,←za11 k j ps hlt];rfl
      obtain⟨q,hq⟩:∃ q,q=k+2*j:=⟨_,rfl⟩
      rw[←hq] at HSTEP ⊢
      have HQ:Hid _:=hq
      have HO:=zc hown
      have HG:Hid _:=hgr
      have hqs:(q:Int)≤100000000:=by omega
      have hq0:(0:Int)≤(q:Int):=by omega
      obtain⟨x1,hx1⟩:∃ o,wr.cell? ⟨g,j*2,none⟩=some o:=by rw[hown.cellAt (j*2) (by omega)];exact⟨_,List.getElem?_eq_getElem (by rw[HLEN.out];omega)⟩
      have f1:=hown.frozenAt (j*2)
      have st1:=hown.stored (j*2) (.int .i64 (q:Int))
      have o2:=st1.1
      obtain⟨x2,hx2⟩:∃ o,(wr.setCell ⟨g,j*2,none⟩ (.int .i64 (q:Int))).cell? ⟨g,j*2+1,none⟩=some o:=by rw[o2.cellAt (j*2+1) (by omega)];exact⟨_,List.getElem?_eq_getElem (by rw[List.length_set,HLEN.out];omega)⟩
      have f2:=o2.frozenAt (j*2+1)
      have st2:=o2.stored (j*2+1) (.int .i64 ((q:Int)+1))
      rw[HSTEP.out] at st2
      have O3:=zc st2.1
      have HG3:Hid _:=(hgr.trans st1.2).trans st2.2
      clear hown hgr hq o2 st1 st2 HO HG HSTEP
      go_wp2
      go_roundw
      case rel=>exact⟨j+1,by omega,by go_num,by have:=HQ.out;congr 1;omega,O3.out,HG3.out⟩
      case measure=>simp[intOf];omega
    · have hjl:j=ps.length:=by omega
      subst hjl
      rw[za0z] at hown
      go_wp2
      go_ret
      exact⟨by congr 2,hown,hgr⟩
theorem za1a (n:Nat) (a:Option Addr) (m cap b1 k:Nat) (w:World) (hl:n≤4000000) (hk:0<k) (hk2:k≤8000000) (hv:w.ownsRow b1 62 2 (.slice a m cap) n (zl (zbp k n))) :
 Calls Tryz.prog 38 #[.slice a m cap,.int .i64 k] w fun e w'=>e=.returned (.int .i64 ((k:Int)+2*(n:Int)))∧w.grownBy w' none:=by
 rcases zc9 hv with ⟨hv0,hn,hx⟩ | ⟨g,cap',hv0,hg1,hg2,hc,hf⟩
 · cases hv0
   subst hn
   go_enter Tryz.func38,Tryz.ntmps38
   go_wp2
   refine wp_loop_rounds 1 ?_
   rw[rounds_succ]
   go_wp2
   go_ret
   exact⟨by simp,World.grownBy.refl _ _⟩
 · cases hv0
   have hcc:∀ j,j<n→w.cell? ⟨g,j*2,none⟩=some (.int .i64 ((k+2*j:Nat):Int))∧w.cell? ⟨g,j*2+1,none⟩=some (.int .i64 (((k+2*j:Nat):Int)+1)):=fun j hj=>by
    have hj':j<(zbp k n).length:=by rw[zl0];exact hj
    have:=zkz (zbp k n) j hj'
    rw[za0w k n j hj'] at this
    exact⟨(hc _ (by omega)).trans this.1,(hc _ (by omega)).trans this.2⟩
   clear hc hf
   go_enter Tryz.func38,Tryz.ntmps38
   go_wp2
   go_loopw [1,5] (fun mm i wr=>∃ j:Nat,j≤n∧i=.int .i64 (j:Int)∧mm=.int .i64 ((k+2*j:Nat):Int)∧w.grownBy wr none) (fun _ i _=>n - (intOf i).toNat)
   case atStart=>exact⟨0,Nat.zero_le _,rfl,rfl,World.grownBy.refl _ _⟩
   case round =>
    obtain⟨j,hj,rfl,rfl,hgr⟩:=hrel
    by_cases hlt:j<n
    · have hj1:(j:Int)<(n:Int):=by omega
      have hj0:(0:Int)≤(j:Int):=by omega
      have c1:=(hgr.cell_far ⟨g,j*2,none⟩ hg2 (by simp)).trans (hcc j hlt).1
      have c2:=(hgr.cell_far ⟨g,j*2+1,none⟩ hg2 (by simp)).trans (hcc j hlt).2
      have HG:Hid _:=hgr
      obtain⟨q,hq⟩:∃ q,q=k+2*j:=⟨_,rfl⟩
      rw[←hq] at c1 c2 ⊢
      have HQ:Hid _:=hq
      have hqs:(q:Int)≤100000000:=by omega
      have hq0:(0:Int)≤(q:Int):=by omega
      clear hcc hgr hv hq
      go_wp2
      go_roundw
      case rel=>exact⟨j+1,by omega,by go_num,by have:=HQ.out;congr 1;omega,HG.out⟩
      case measure=>simp[intOf];omega
    · have hjl:j=n:=by omega
      subst hjl
      go_wp2
      go_ret
      exact⟨by congr 2,hgr⟩
open Go.ChangeShapes Go.WideShapes Go.ChangeAt Go.RowKit
theorem zj {w:World} {b:Nat} {u v x y:Value} {t:TypeId} (h:w.heap[b]? = some (.cells #[u,v,x,y] t (0,0))) :
 w.cell? ⟨b,0,none⟩=some u∧w.cell? ⟨b,1,none⟩=some v∧w.cell? ⟨b,2,none⟩=some x∧w.cell? ⟨b,3,none⟩=some y∧∀ j,w.frozen? ⟨b,j,none⟩=false:=by
 refine⟨?_,?_,?_,?_,fun j=>frozen_of_row w b j _ t h⟩ <;> simp only[World.cell?,h] <;> rfl
theorem zc4 {w:World} {b j:Nat} {u v x y z:Value} {t:TypeId} (h:w.heap[b]? = some (.cells #[u,v,x,y] t (0,0))):(w.setCell ⟨b,j,none⟩ z).heap[b]? = some (.cells (#[u,v,x,y].setIfInBounds j z) t (0,0)):=by
 have hlt:=lt_of_block h
 have h':w.heap[b]=.cells #[u,v,x,y] t (0,0):=by simpa [Array.getElem?_eq_getElem hlt] using h
 show (w.heap.modify b _)[b]? = _
 rw[Array.getElem?_eq_getElem (by simpa using hlt),Array.getElem_modify_self,h']
 rfl
theorem za1b {H:Type} {enc:TypeId × Value→H} {W:World} {r:Reach} {b0:Nat} {v:Value} {d:DataW H} {p:List MemPlace} (hv:Value.okWide Tryz.prog W r b0 25 v) (h:DataW.Trod enc Tryz.prog W 0 (fun _=>true) true 25 v d p) :
 ∃ (ix:Int) (root:List UInt8) (a:Option Addr) (cap:Nat) (ps:List za) (c:Option Addr) (cap2:Nat) (ss:List zg),v=.agg #[.int .i64 ix,.string ⟨root.toArray⟩,.slice a ps.length cap,.slice c ss.length cap2]∧root.length≤9223372036854775807∧(∀ p∈ps,p.1.length≤9223372036854775807∧p.2.length≤9223372036854775807)∧IsPairs W a ps∧ps.length≤9223372036854775807∧IsSess W c ss∧ss.length≤9223372036854775807:=by
 obtain⟨u0,u1,u2,u3,y0,y1,y2,y3,n,rfl,_,_,t0,t1,t2,t3⟩:=Go.Joins.open_agg4 Tryz.underlying25 (by kernel_rfl) (by kernel_rfl) hv h
 obtain⟨i0,hi0,_,_⟩:=DataW.trod_int Tryz.underlying2 t0
 obtain⟨s0,hs0,_,w0⟩:=DataW.trod_string Tryz.underlying9 t1
 obtain⟨a,ps,cap,rfl,m2,i2,l2⟩:=za05 t2
 obtain⟨c,ss,cap2,rfl,i3,l3⟩:=za13 t3
 simp at hs0 hi0
 subst hs0 hi0
 unfold maxLen at w0
 exact⟨i0,s0.data.toList,a,cap,ps,c,cap2,ss,by simp,by simp only[Array.length_toList];exact w0,m2,i2,l2,i3,l3⟩
theorem za1c (L:Nat) (hL:L≤1048576) (ix:Int) (r:List UInt8) (a:Option Addr) (cap:Nat) (ps:List za) (c:Option Addr) (cap2:Nat) (ss:List zg) (w:World) (hr:r.length≤9223372036854775807) (hl:ps.length≤9223372036854775807) (hm:∀ p∈ps,p.1.length≤9223372036854775807∧p.2.length≤9223372036854775807) (hs:IsPairs w a ps) (hl2:ss.length≤9223372036854775807) :
 Calls Tryz.prog 4 #[.agg #[.int .i64 ix,.string ⟨r.toArray⟩,.slice a ps.length cap,.slice c ss.length cap2],.int .i64 (L:Int)] w fun e w'=>(e=.returned (.int .i64 (-1))∨(r.length≤L∧ps.length+zc3 ps≤L∧ss.length≤L∧∃ n:Nat,n≤L∧e=.returned (.int .i64 (n:Int))))∧Below w.heap.size w w':=by
 have hz:(ByteArray.mk r.toArray).size=r.length:=by simp[ByteArray.size]
 have B0:Below w.heap.size w (w.alloc (.cells #[.int .i64 ix,.string ⟨r.toArray⟩,.slice a ps.length cap,.slice c ss.length cap2] 25)):=(Below.refl _ _).alloc (Nat.le_refl _) _
 have H0:=heap_alloc_new w (.cells #[.int .i64 ix,.string ⟨r.toArray⟩,.slice a ps.length cap,.slice c ss.length cap2] 25)
 obtain⟨p0,p1,p2,p3,_⟩:=zj H0
 by_cases hb:r.length≤L
 · obtain⟨m,hm2⟩:∃ m,m=L - r.length:=⟨_,rfl⟩
   have K:=za08 m (by omega) a cap ps _ hl hm (hs.later B0)
   have hsub:(L:Int) - (r.length:Int)=(m:Int):=by omega
   have HM:Hid (m+r.length=L):=by rw[Hid];omega
   have HH0:Hid (_=_):=H0
   clear hs hm hm2 H0
   go_enter Tryz.func4,Tryz.ntmps4
   go_wp2_with fail
   refine K.mono ?_
   rintro e w1 ⟨he,b1⟩
   have B1:=B0.trans (b1.mono B0.size)
   rcases he with rfl | ⟨hsz,n,hn,rfl⟩
   · go_wp2
     go_ret
     exact⟨.inl rfl,B1⟩
   · have HS:Hid (r.length≤L∧ps.length+zc3 ps≤L):=by have:=HM.out;exact⟨by omega,by omega⟩
     have HN:Hid (n≤L):=by have:=HM.out;rw[Hid];omega
     have hn0:(0:Int)≤(n:Int):=by omega
     have K2:=za15 n ss.length (by have:=HN.out;omega) hl2 c cap2 w1
     obtain⟨q0,q1,q2,q3,_⟩:=zj ((b1.block w.heap.size (by simp)).trans HH0.out)
     clear hsz hn K HH0 b1 p0 p1 p2 p3
     go_wp2_with fail
     refine K2.mono ?_
     rintro e w2 ⟨he,b2⟩
     have B2:=B1.trans (b2.mono B1.size)
     rcases he with rfl | ⟨hsz,n2,hn2,rfl⟩
     · go_wp2
       go_ret
       exact⟨.inl rfl,B2⟩
     · have HS2:Hid (ss.length≤L∧n2≤L):=by have:=HN.out;exact⟨by omega,by omega⟩
       clear hsz hn2 K2 HN
       go_wp2
       go_ret
       exact⟨.inr ⟨HS.out.1,HS.out.2,HS2.out.1,n2,HS2.out.2,rfl⟩,B2⟩
 · have hb':¬ (r.length:Int)≤(L:Int):=by omega
   clear hs hm H0
   go_enter Tryz.func4,Tryz.ntmps4
   go_wp2
   go_ret
   first | exact⟨.inl rfl,B0⟩ | exact⟨rfl,B0⟩
theorem za1d (ix:Int) (r:List UInt8) (a:Option Addr) (cap:Nat) (ps:List za) (c:Option Addr) (cap2:Nat) (ss:List zg) (w:World) (hl:ps.length≤1048576) (hs:IsPairs w a ps) (hl2:ss.length≤1048576) (hs2:IsSess w c ss) :
 Calls Tryz.prog 7 #[.agg #[.int .i64 ix,.string ⟨r.toArray⟩,.slice a ps.length cap,.slice c ss.length cap2]] w fun e w'=>∃ g g2:Nat,e=.returned (.agg #[.int .i64 ix,.string ⟨r.toArray⟩,.slice (some ⟨g,0,none⟩) ps.length ps.length,.slice (some ⟨g2,0,none⟩) ss.length ss.length])∧g<g2∧w'.ownsRow w.heap.size 59 2 (.slice (some ⟨g,0,none⟩) ps.length ps.length) ps.length (zb ps)∧w'.ownsRow w.heap.size 62 2 (.slice (some ⟨g2,0,none⟩) ss.length ss.length) ss.length (zl ss)∧Below w.heap.size w w':=by
 obtain⟨wa,hwa⟩:∃ wa,wa=((w.alloc (.cells #[.int .i64 ix,.string ⟨r.toArray⟩,.slice a ps.length cap,.slice c ss.length cap2] 25)).alloc (.cells #[.int .i64 0,.string ⟨#[]⟩,.slice none 0 0,.slice none 0 0] 34)).alloc (.cells #[.int .i64 ix,.string ⟨r.toArray⟩,.slice none 0 0,.slice none 0 0] 34):=⟨_,rfl⟩
 have Ba:Below w.heap.size w wa:=by rw[hwa];exact (((Below.refl _ _).alloc (Nat.le_refl _) _).alloc (by simp) _).alloc (by simp;omega) _
 have sa:wa.heap.size=w.heap.size+3:=by rw[hwa];simp
 have a0:wa.heap[w.heap.size]? = some (.cells #[.int .i64 ix,.string ⟨r.toArray⟩,.slice a ps.length cap,.slice c ss.length cap2] 25 (0,0)):=by rw[hwa,Below.heap_alloc _ _ _ (by simp;omega),Below.heap_alloc _ _ _ (by simp)];exact heap_alloc_new w _
 have a1:wa.heap[w.heap.size+1]? = some (.cells #[.int .i64 0,.string ⟨#[]⟩,.slice none 0 0,.slice none 0 0] 34 (0,0)):=by
  rw[hwa,Below.heap_alloc _ _ _ (by simp)]
  have:=heap_alloc_new (w.alloc (.cells #[.int .i64 ix,.string ⟨r.toArray⟩,.slice a ps.length cap,.slice c ss.length cap2] 25)) (.cells #[.int .i64 0,.string ⟨#[]⟩,.slice none 0 0,.slice none 0 0] 34)
  simpa using this
 have a2:wa.heap[w.heap.size+2]? = some (.cells #[.int .i64 ix,.string ⟨r.toArray⟩,.slice none 0 0,.slice none 0 0] 34 (0,0)):=by
  rw[hwa]
  have:=heap_alloc_new ((w.alloc (.cells #[.int .i64 ix,.string ⟨r.toArray⟩,.slice a ps.length cap,.slice c ss.length cap2] 25)).alloc (.cells #[.int .i64 0,.string ⟨#[]⟩,.slice none 0 0,.slice none 0 0] 34)) (.cells #[.int .i64 ix,.string ⟨r.toArray⟩,.slice none 0 0,.slice none 0 0] 34)
  rw[show ((w.alloc (.cells #[.int .i64 ix,.string ⟨r.toArray⟩,.slice a ps.length cap,.slice c ss.length cap2] 25)).alloc (.cells #[.int .i64 0,.string ⟨#[]⟩,.slice none 0 0,.slice none 0 0] 34)).heap.size=w.heap.size+2 by simp] at this
  exact this
 have K1:=za02 a cap ps wa hl (hs.later Ba)
 rw[sa] at K1
 rw[hwa] at K1
 have HS2:Hid (∀ W,Below w.heap.size w W→IsSess W c ss):=fun W hW=>hs2.later hW
 clear hs hs2
 go_enter Tryz.func7,Tryz.ntmps7
 go_wp2_with fail
 refine K1.mono ?_
 rintro e w1 ⟨rfl,o1,b1⟩
 rw[←hwa] at b1
 clear K1 hwa
 have hb1:Below wa.heap.size wa w1:=by rw[sa];exact b1
 have B1:=Ba.trans (hb1.mono (by omega))
 have e0:=(hb1.block (w.heap.size) (by omega)).trans a0
 have e1:=(hb1.block (w.heap.size+1) (by omega)).trans a1
 have e2:=(hb1.block (w.heap.size+2) (by omega)).trans a2
 have O1:=zc o1
 have s1:w.heap.size+3<w1.heap.size:=by have:=zci o1;omega
 have B1s:Below w.heap.size w (w1.setCell ⟨w.heap.size+1+1,2,none⟩ (.slice (some ⟨w.heap.size+3,0,none⟩) ps.length ps.length)):=B1.setCell (by simp;omega) _
 have sz1:(w1.setCell ⟨w.heap.size+1+1,2,none⟩ (.slice (some ⟨w.heap.size+3,0,none⟩) ps.length ps.length)).heap.size=w1.heap.size:=by simp
 have K2:=za16 c cap2 ss (w1.setCell ⟨w.heap.size+1+1,2,none⟩ (.slice (some ⟨w.heap.size+3,0,none⟩) ps.length ps.length)) hl2 (HS2.out _ B1s)
 rw[sz1] at K2
 obtain⟨p0,p1,p2,p3,_⟩:=zj e0
 obtain⟨r0,r1,r2,r3,rf⟩:=zj e2
 have rf2:=rf 2
 have E0:Hid ((w1.setCell ⟨w.heap.size+1+1,2,none⟩ (.slice (some ⟨w.heap.size+3,0,none⟩) ps.length ps.length)).heap[w.heap.size]? = _):=(Below.heap_setCell _ _ _ _ (by simp;omega)).trans e0
 have E1:Hid ((w1.setCell ⟨w.heap.size+1+1,2,none⟩ (.slice (some ⟨w.heap.size+3,0,none⟩) ps.length ps.length)).heap[w.heap.size+1]? = _):=(Below.heap_setCell _ _ _ _ (by simp)).trans e1
 have E2:Hid ((w1.setCell ⟨w.heap.size+1+1,2,none⟩ (.slice (some ⟨w.heap.size+3,0,none⟩) ps.length ps.length)).heap[w.heap.size+1+1]? = some (.cells #[.int .i64 ix,.string ⟨r.toArray⟩,(.slice (some ⟨w.heap.size+3,0,none⟩) ps.length ps.length),.slice none 0 0] 34 (0,0))):=zc4 (j:=2) e2
 have O1s:Hid ((w1.setCell ⟨w.heap.size+1+1,2,none⟩ (.slice (some ⟨w.heap.size+3,0,none⟩) ps.length ps.length)).ownsRow (w.heap.size+3) 59 2 (.slice (some ⟨w.heap.size+3,0,none⟩) ps.length ps.length) ps.length (zb ps)):=ownsRow_setCell_other O1.out (by simp[Value.ownBlock]) _
 clear a0 a1 a2 b1 hb1 Ba rf o1 sa e0 e1 e2 O1 HS2
 go_wp2_with fail
 refine K2.mono ?_
 rintro e w2 ⟨rfl,o2,b2⟩
 have b2':Below (w1.setCell ⟨w.heap.size+1+1,2,none⟩ (.slice (some ⟨w.heap.size+3,0,none⟩) ps.length ps.length)).heap.size (w1.setCell ⟨w.heap.size+1+1,2,none⟩ (.slice (some ⟨w.heap.size+3,0,none⟩) ps.length ps.length)) w2:=by rw[sz1];exact b2
 have B2:=B1s.trans (b2'.mono B1s.size)
 have f0:=(b2.block w.heap.size (by omega)).trans E0.out
 have f1:=(b2.block (w.heap.size+1) (by omega)).trans E1.out
 have f2:=(b2.block (w.heap.size+1+1) (by omega)).trans E2.out
 have O12:=zc (zaj O1s.out b2')
 have O2:=zc o2
 have s2:=zci o2
 clear K2 E0 E1 E2 O1s b2 b2' B1s B1 o2 r0 r1 r2 r3 rf2 p0 p1 p2 p3 sz1
 obtain⟨r0,r1,r2,r3,rf⟩:=zj f2
 obtain⟨q0,q1,q2,q3,qf⟩:=zj f1
 have rf3:=rf 3
 have qf0:=qf 0
 have qf1:=qf 1
 have qf2:=qf 2
 have qf3:=qf 3
 have k1:(w2.setCell ⟨w.heap.size+1+1,3,none⟩ (.slice (some ⟨w1.heap.size,0,none⟩) ss.length ss.length)).heap[w.heap.size+1]? = _:=(Below.heap_setCell _ _ _ _ (by simp)).trans f1
 have y1:=zc4 (j:=0) (z:=.int .i64 ix) k1
 have y2:=zc4 (j:=1) (z:=.string ⟨r.toArray⟩) y1
 have y3:=zc4 (j:=2) (z:=(.slice (some ⟨w.heap.size+3,0,none⟩) ps.length ps.length)) y2
 have y4:=zc4 (j:=3) (z:=(.slice (some ⟨w1.heap.size,0,none⟩) ss.length ss.length)) y3
 have HY:Hid (_=_):=y4
 have HR1:Hid ((((((w2.setCell ⟨w.heap.size+1+1,3,none⟩ (.slice (some ⟨w1.heap.size,0,none⟩) ss.length ss.length)).setCell ⟨w.heap.size+1,0,none⟩ (.int .i64 ix)).setCell ⟨w.heap.size+1,1,none⟩ (.string ⟨r.toArray⟩)).setCell ⟨w.heap.size+1,2,none⟩ (.slice (some ⟨w.heap.size+3,0,none⟩) ps.length ps.length)).setCell ⟨w.heap.size+1,3,none⟩ (.slice (some ⟨w1.heap.size,0,none⟩) ss.length ss.length)).ownsRow w.heap.size 59 2 (.slice (some ⟨w.heap.size+3,0,none⟩) ps.length ps.length) ps.length (zb ps)) :=
  ownsRow_setCell_other (ownsRow_setCell_other (ownsRow_setCell_other (ownsRow_setCell_other (ownsRow_setCell_other (O12.out.mono (by omega)) (by simp[Value.ownBlock]) _) (by simp[Value.ownBlock]) _) (by simp[Value.ownBlock]) _) (by simp[Value.ownBlock]) _) (by simp[Value.ownBlock]) _
 have HR2:Hid ((((((w2.setCell ⟨w.heap.size+1+1,3,none⟩ (.slice (some ⟨w1.heap.size,0,none⟩) ss.length ss.length)).setCell ⟨w.heap.size+1,0,none⟩ (.int .i64 ix)).setCell ⟨w.heap.size+1,1,none⟩ (.string ⟨r.toArray⟩)).setCell ⟨w.heap.size+1,2,none⟩ (.slice (some ⟨w.heap.size+3,0,none⟩) ps.length ps.length)).setCell ⟨w.heap.size+1,3,none⟩ (.slice (some ⟨w1.heap.size,0,none⟩) ss.length ss.length)).ownsRow w.heap.size 62 2 (.slice (some ⟨w1.heap.size,0,none⟩) ss.length ss.length) ss.length (zl ss)) :=
  ownsRow_setCell_other (ownsRow_setCell_other (ownsRow_setCell_other (ownsRow_setCell_other (ownsRow_setCell_other (O2.out.mono (by omega)) (by simp[Value.ownBlock];omega) _) (by simp[Value.ownBlock];omega) _) (by simp[Value.ownBlock];omega) _) (by simp[Value.ownBlock];omega) _) (by simp[Value.ownBlock];omega) _
 have HBB:Hid (Below w.heap.size w (((((w2.setCell ⟨w.heap.size+1+1,3,none⟩ (.slice (some ⟨w1.heap.size,0,none⟩) ss.length ss.length)).setCell ⟨w.heap.size+1,0,none⟩ (.int .i64 ix)).setCell ⟨w.heap.size+1,1,none⟩ (.string ⟨r.toArray⟩)).setCell ⟨w.heap.size+1,2,none⟩ (.slice (some ⟨w.heap.size+3,0,none⟩) ps.length ps.length)).setCell ⟨w.heap.size+1,3,none⟩ (.slice (some ⟨w1.heap.size,0,none⟩) ss.length ss.length))) :=
  ((((B2.setCell (by simp;omega) _).setCell (by simp) _).setCell (by simp) _).setCell (by simp) _).setCell (by simp) _
 clear f0 f1 f2 k1 y1 y2 y3 y4 rf qf
 go_wp2
 exact bodyPost_ret (v:=.agg #[.int .i64 ix,.string ⟨r.toArray⟩,(.slice (some ⟨w.heap.size+3,0,none⟩) ps.length ps.length),(.slice (some ⟨w1.heap.size,0,none⟩) ss.length ss.length)]) (results_cell_row rfl _ _ (w.heap.size+1) 34 _ (0,0) _ rfl HY.out Tryz.underlying34 rfl (by kernel_rfl)) rfl ⟨_,_,rfl,s1,HR1.out,HR2.out,HBB.out⟩
theorem zi9 (ix:Int) (r:List UInt8) (ps:List za) (ss:List zg) (a c a2 c2:Option Addr) (n m n2 m2:Nat) (w:World) (hl:ps.length≤16777216) (hu:IsPairs w a ps) (hv:IsPairs w c ps) (hl2:ss.length≤16777216) (hu2:IsSess w a2 ss) (hv2:IsSess w c2 ss) :
 Calls Tryz.prog 10 #[.agg #[.int .i64 ix,.string ⟨r.toArray⟩,.slice a ps.length n,.slice a2 ss.length n2],.agg #[.int .i64 ix,.string ⟨r.toArray⟩,.slice c ps.length m,.slice c2 ss.length m2]] w fun e w'=>e=.returned (.bool true)∧Below w.heap.size w w':=by
 have B0:Below w.heap.size w ((w.alloc (.cells #[.int .i64 ix,.string ⟨r.toArray⟩,.slice a ps.length n,.slice a2 ss.length n2] 34)).alloc (.cells #[.int .i64 ix,.string ⟨r.toArray⟩,.slice c ps.length m,.slice c2 ss.length m2] 34)):=((Below.refl _ _).alloc (Nat.le_refl _) _).alloc (by simp) _
 have K:=za04 ps a c n m ((w.alloc (.cells #[.int .i64 ix,.string ⟨r.toArray⟩,.slice a ps.length n,.slice a2 ss.length n2] 34)).alloc (.cells #[.int .i64 ix,.string ⟨r.toArray⟩,.slice c ps.length m,.slice c2 ss.length m2] 34)) hl (hu.later B0) (hv.later B0)
 have HU:Hid (∀ W,Below w.heap.size w W→IsSess W a2 ss∧IsSess W c2 ss):=fun W hW=>⟨hu2.later hW,hv2.later hW⟩
 have H1:Hid (((w.alloc (.cells #[.int .i64 ix,.string ⟨r.toArray⟩,.slice a ps.length n,.slice a2 ss.length n2] 34)).alloc (.cells #[.int .i64 ix,.string ⟨r.toArray⟩,.slice c ps.length m,.slice c2 ss.length m2] 34)).heap[w.heap.size]? = some (.cells #[.int .i64 ix,.string ⟨r.toArray⟩,.slice a ps.length n,.slice a2 ss.length n2] 34 (0,0))):=by
  rw[Hid,Below.heap_alloc _ _ _ (by simp)];exact heap_alloc_new _ _
 have H2:Hid (((w.alloc (.cells #[.int .i64 ix,.string ⟨r.toArray⟩,.slice a ps.length n,.slice a2 ss.length n2] 34)).alloc (.cells #[.int .i64 ix,.string ⟨r.toArray⟩,.slice c ps.length m,.slice c2 ss.length m2] 34)).heap[w.heap.size+1]? = some (.cells #[.int .i64 ix,.string ⟨r.toArray⟩,.slice c ps.length m,.slice c2 ss.length m2] 34 (0,0))):=by
  have:=heap_alloc_new (w.alloc (.cells #[.int .i64 ix,.string ⟨r.toArray⟩,.slice a ps.length n,.slice a2 ss.length n2] 34)) (.cells #[.int .i64 ix,.string ⟨r.toArray⟩,.slice c ps.length m,.slice c2 ss.length m2] 34)
  rw[Hid];simpa using this
 obtain⟨p0,p1,p2,p3,_⟩:=zj H1.out
 obtain⟨q0,q1,q2,q3,_⟩:=zj H2.out
 clear hu hv hu2 hv2
 go_enter Tryz.func10,Tryz.ntmps10
 go_wp2_with fail
 refine K.mono ?_
 rintro e w1 ⟨rfl,b1⟩
 have B1:=B0.trans (b1.mono B0.size)
 clear p0 p1 p2 p3 q0 q1 q2 q3
 obtain⟨p0,p1,p2,p3,_⟩:=zj ((b1.block w.heap.size (by simp;omega)).trans H1.out)
 obtain⟨q0,q1,q2,q3,_⟩:=zj ((b1.block (w.heap.size+1) (by simp)).trans H2.out)
 have K2:=za18 ss a2 c2 n2 m2 w1 hl2 (HU.out w1 B1).1 (HU.out w1 B1).2
 clear K b1 H1 H2 B0 HU
 go_wp2_with fail
 refine K2.mono ?_
 rintro e w2 ⟨rfl,b2⟩
 have B2:=B1.trans (b2.mono B1.size)
 go_wp2
 go_ret
 exact⟨rfl,B2⟩
theorem zqk (ix:Int) (r:List UInt8) (ps:List za) (ss:List zg) (a c:Option Addr) (m cap m2 cap2 b1 k:Nat) (w:World) (hl:ps.length≤2000000) (hl2:ss.length≤2000000) (hk:0<k) (hk2:k≤4000000) (hne:∀ q,(Value.slice a m cap).ownBlock=some q→(Value.slice c m2 cap2).ownBlock≠some q) (hv:w.ownsRow b1 59 2 (.slice a m cap) ps.length (zb ps)) (hv2:w.ownsRow b1 62 2 (.slice c m2 cap2) ss.length (zl ss)) :
 Calls Tryz.prog 12 #[.agg #[.int .i64 ix,.string ⟨r.toArray⟩,.slice a m cap,.slice c m2 cap2],.int .i64 k] w fun e w'=>e=.returned (.int .i64 ((k:Int)+2*(ps.length:Int)+2*(ss.length:Int)))∧w'.ownsRow b1 59 2 (.slice a m cap) ps.length (zb (zbv k ps.length))∧w'.ownsRow b1 62 2 (.slice c m2 cap2) ss.length (zl (zbp (k+2*ps.length) ss.length))∧∃ wm,w.grownBy wm (Value.slice a m cap).ownBlock∧wm.grownBy w' (Value.slice c m2 cap2).ownBlock:=by
 have B0:Below w.heap.size w (w.alloc (.cells #[.int .i64 ix,.string ⟨r.toArray⟩,.slice a m cap,.slice c m2 cap2] 34)):=(Below.refl _ _).alloc (Nat.le_refl _) _
 have K:=za06 ps a m cap b1 k (w.alloc (.cells #[.int .i64 ix,.string ⟨r.toArray⟩,.slice a m cap,.slice c m2 cap2] 34)) (by omega) hk hk2 (zaj hv B0)
 have G0:Hid (w.grownBy (w.alloc (.cells #[.int .i64 ix,.string ⟨r.toArray⟩,.slice a m cap,.slice c m2 cap2] 34)) (Value.slice a m cap).ownBlock):=zbw B0 _
 have H0:Hid (_=_):=heap_alloc_new w (.cells #[.int .i64 ix,.string ⟨r.toArray⟩,.slice a m cap,.slice c m2 cap2] 34)
 obtain⟨p0,p1,p2,p3,_⟩:=zj H0.out
 have HO2:Hid ((w.alloc (.cells #[.int .i64 ix,.string ⟨r.toArray⟩,.slice a m cap,.slice c m2 cap2] 34)).ownsRow b1 62 2 (.slice c m2 cap2) ss.length (zl ss)):=zaj hv2 B0
 have HLT:Hid (∀ q,(Value.slice a m cap).ownBlock=some q→q<w.heap.size):=fun q hq=>(hv.lt q hq).2
 clear hv hv2
 go_enter Tryz.func12,Tryz.ntmps12
 go_wp2_with fail
 refine K.mono ?_
 rintro e w1 ⟨rfl,o1,g1⟩
 have O1:=zc o1
 have G1:Hid (w.grownBy w1 (Value.slice a m cap).ownBlock):=G0.out.trans g1
 have o2:=HO2.out.kept g1 (by
  cases hq:(Value.slice c m2 cap2).ownBlock with
  | none=>exact .inl rfl
  | some q=>exact .inr (fun e=>hne q e.symm hq))
 have h1:=(g1.block w.heap.size (by simp) (fun e=>by have:=HLT.out _ e.symm;omega)).trans H0.out
 obtain⟨q0,q1,q2,q3,_⟩:=zj h1
 have K2:=za19 ss c m2 cap2 b1 (k+2*ps.length) w1 (by omega) (by omega) (by omega) o2
 rw[show ((k+2*ps.length:Nat):Int)=(k:Int)+2*(ps.length:Int) by omega] at K2
 clear K o1 g1 G0 B0 p0 p1 p2 p3 o2 h1 H0 HO2
 go_wp2_with fail
 refine K2.mono ?_
 rintro e w2 ⟨rfl,o2,g2⟩
 have O2:=zc o2
 have O1':=zc (O1.out.kept g2 (by
  cases hq:(Value.slice a m cap).ownBlock with
  | none=>exact .inl rfl
  | some q=>exact .inr (fun e=>hne q hq e.symm)))
 have G2:Hid (w1.grownBy w2 (Value.slice c m2 cap2).ownBlock):=g2
 clear K2 o2 g2 q0 q1 q2 q3 O1
 go_wp2
 go_ret
 exact⟨rfl,O1'.out,O2.out,w1,G1.out,G2.out⟩
def seAt (ss:List zg) (j:Nat):zg:=ss.getD j (0,0)
def seOk (ss:List zg) (j:Nat):Bool:=(za4 (seAt ss j).1 && za4 (seAt ss j).2) && (decide (j=0) || decide ((seAt ss (j - 1)).1<(seAt ss j).1))
def zav (ss:List zg):Bool:=decide (ss.length≤6) && (List.range ss.length).all (seOk ss)
theorem zql (ss:List zg) (h:¬ ss.length≤6):zav ss=false:=by simp[zav,h]
theorem zqm (ss:List zg) (j:Nat) (h:j<ss.length) (hb:seOk ss j=false):zav ss=false:=by
 have:(List.range ss.length).all (seOk ss)=false:=by
  rw[List.all_eq_false]
  exact⟨j,List.mem_range.2 h,by simp[hb]⟩
 simp[zav,this]
theorem zqn (ss:List zg) (h6:ss.length≤6) (h:∀ j,j<ss.length→seOk ss j=true):zav ss=true:=by
 simp only[zav,Bool.and_eq_true,decide_eq_true_eq,List.all_eq_true,List.mem_range]
 exact⟨h6,h⟩
theorem zgp (ss:List zg) (j:Nat) (h:j<ss.length):seAt ss j=ss[j]:=by simp[seAt,h]
theorem zqo (ss:List zg) (j:Nat) (h:(za4 (seAt ss j).1 && za4 (seAt ss j).2)=false):seOk ss j=false:=by unfold seOk;rw[h];rfl
theorem za1e (ss:List zg) (h:(za4 (seAt ss 0).1 && za4 (seAt ss 0).2)=true):seOk ss 0=true:=by unfold seOk;rw[h];rfl
theorem za1f (ss:List zg) (j:Nat) (h:(za4 (seAt ss (j+1)).1 && za4 (seAt ss (j+1)).2)=true):seOk ss (j+1)=decide ((seAt ss j).1<(seAt ss (j+1)).1):=by unfold seOk;rw[h];simp
theorem zdx {B:Nat} {w w':World} {q:Nat} (h:Below B w w'):Below B w (w'.drewN q):=⟨h.os,h.tape,h.output,h.size,h.block⟩
theorem za1g (a : Option Addr) (cap : Nat) (ss : List zg) (w : World) (hl : ss.length ≤ 1048576) (hs : IsSess w a ss) :
 Calls Tryz.prog 55 #[.slice a ss.length cap] w fun e w'=>e=.returned (.bool (zav ss))∧Below w.heap.size w w':=by
 by_cases h6:ss.length≤6
 · have h6' : (ss.length : Int) ≤ 6 := by omega
   rcases hs with rfl | ⟨b,off,rfl,hc⟩
   · go_enter Tryz.func55,Tryz.ntmps55
     go_wp2
     refine wp_loop_rounds 1 ?_
     rw[rounds_succ]
     go_wp2
     go_ret
     exact⟨rfl,Below.refl _ _⟩
   · have hc' : ∀ j, j < ss.length → w.cell? ⟨b, off + j * 2, none⟩ = some (.int .i64 (seAt ss j).1) ∧ w.cell? ⟨b, off + j * 2 + 1, none⟩ = some (.int .i64 (seAt ss j).2) := fun j h => by rw [zgp ss j h]; exact hc j h
     obtain⟨r,hr⟩:∃ r,r=zav ss:=⟨_,rfl⟩
     have HBAD:Hid (∀ j,j<ss.length→seOk ss j=false→r=false):=fun j h hb=>by rw[hr];exact zqm ss j h hb
     have HALL:Hid ((∀ j,j<ss.length→seOk ss j=true)→r=true):=fun h=>by rw[hr];exact zqn ss h6 h
     rw[←hr]
     clear hc hr
     go_enter Tryz.func55,Tryz.ntmps55
     go_wp2
     go_loopw [3,4,10] (fun _ _ i wr=>∃ j:Nat,j≤ss.length∧i=.int .i64 (j:Int)∧Hid (∀ k,k<j→seOk ss k=true)∧Below w.heap.size w wr) (fun _ _ i _=>ss.length - (intOf i).toNat)
     case atStart=>exact⟨0,Nat.zero_le _,rfl,fun k hk=>by omega,Below.refl _ _⟩
     case round =>
      obtain⟨j,hj,rfl,HA,hbel⟩:=hrel
      have hsz:=hbel.size
      by_cases hlt:j<ss.length
      · obtain⟨c1',c2'⟩:=hc' j hlt
        have c1:=(hbel.cell (p:=⟨b,off+j*2,none⟩) (World.block_lt_of_cell? w _ c1')).trans c1'
        have c2:=(hbel.cell (p:=⟨b,off+j*2+1,none⟩) (World.block_lt_of_cell? w _ c2')).trans c2'
        clear c1' c2'
        have hj0:(0:Int)≤(j:Int):=by omega
        have hj1:(j:Int)<(ss.length:Int):=by omega
        have HB:Hid (seOk ss j=false→r=false):=HBAD.out j hlt
        have HN:Hid (seOk ss j=true→∀ k,k<j+1→seOk ss k=true):=fun h k hk=>by
         by_cases e:k=j
         · rw[e];exact h
         · exact HA.out k (by omega)
        have HNUM:Hid ((za4 (seAt ss j).1 && za4 (seAt ss j).2)=false→seOk ss j=false):=zqo ss j
        have hbl:=World.block_lt_of_cell? wr _ c1
        cases j with
        | zero =>
          have hz0:¬ (0:Int)<((0:Nat):Int):=by omega
          have hzb:decide ((0:Int)<((0:Nat):Int))=false:=decide_eq_false (by omega)
          simp only[Nat.zero_mul,Nat.add_zero] at c1 c2
          have HSZ:Hid ((za4 (seAt ss 0).1 && za4 (seAt ss 0).2)=true→seOk ss 0=true):=za1e ss
          obtain⟨x,hx⟩:∃ x,x=(seAt ss 0).1:=⟨_,rfl⟩
          obtain⟨y,hy⟩:∃ y,y=(seAt ss 0).2:=⟨_,rfl⟩
          rw[←hx,←hy] at HSZ HNUM
          rw[←hx] at c1
          rw[←hy] at c2
          clear hc' hx hy HBAD HALL HA
          have K:=fun W=>zjd x y W
          obtain⟨nb,hnb⟩:∃ nb,nb=(za4 x && za4 y):=⟨_,rfl⟩
          rw[←hnb] at K HSZ HNUM
          clear hnb
          have AB:Below wr.heap.size wr (wr.alloc (.cells #[.int .i64 x,.int .i64 y] 62)):=(Below.refl _ _).alloc (Nat.le_refl _) _
          have AN:=heap_alloc_new wr (.cells #[.int .i64 x,.int .i64 y] 62)
          go_wp2_with fail
          refine (K _).mono ?_
          rintro e w1 ⟨rfl,b1⟩
          have AW:=AB.trans (b1.mono AB.size)
          have B1:=hbel.trans (AW.mono hsz)
          have an:=(b1.block wr.heap.size (by simp)).trans AN
          have z0:w1.cell? ⟨wr.heap.size,0,none⟩=some (.int .i64 x):=by simp only[World.cell?,an];rfl
          clear K b1 AN an AB
          cases nb with
          | false =>
            have HR:Hid (r=false):=HB.out (HNUM.out rfl)
            go_wp2
            go_ret
            obtain rfl:=HR.out
            exact⟨rfl,by first | exact B1 | exact zdx B1⟩
          | true =>
            have HT:Hid (seOk ss 0=true):=HSZ.out rfl
            go_wp2
            go_quiet (fail)
            go_wp2
            go_roundw
            case rel=>exact⟨0+1,by omega,by first | rfl | go_num,HN.out HT.out,by first | exact B1 | exact zdx B1⟩
            case measure=>simp[intOf];omega
        | succ j' =>
          obtain⟨d1',_⟩:=hc' j' (by omega)
          have d1:=(hbel.cell (p:=⟨b,off+j'*2,none⟩) (World.block_lt_of_cell? w _ d1')).trans d1'
          clear d1'
          have HSU:Hid ((za4 (seAt ss (j'+1)).1 && za4 (seAt ss (j'+1)).2)=true→seOk ss (j'+1)=decide ((seAt ss j').1<(seAt ss (j'+1)).1)):=za1f ss j'
          have hz':(0:Int)<((j'+1:Nat):Int):=by omega
          have hz'':0<j'+1:=by omega
          have hzb:decide ((0:Int)<((j'+1:Nat):Int))=true:=decide_eq_true (by omega)
          have hzi:IntKind.i64.wrap (((j'+1:Nat):Int) - 1)=(j':Int):=by rw[zag _ (by omega) (by omega)];omega
          have hzt:((j':Int)).toNat=j':=by omega
          have hzw:IntKind.i64.wrap (j':Int)=(j':Int):=zag _ (by omega) (by omega)
          have hi2:((j'+1:Nat):Int) - 1=(j':Int):=by omega
          have hi0:(0:Int)≤(j':Int):=by omega
          have hi3:(j':Int)<(ss.length:Int):=by omega
          obtain⟨i1,hi1⟩:∃ i1,i1=j'+1:=⟨_,rfl⟩
          obtain⟨x,hx⟩:∃ x,x=(seAt ss (j'+1)).1:=⟨_,rfl⟩
          obtain⟨y,hy⟩:∃ y,y=(seAt ss (j'+1)).2:=⟨_,rfl⟩
          obtain⟨z,hz⟩:∃ z,z=(seAt ss j').1:=⟨_,rfl⟩
          rw[←hx,←hy,←hz] at HSU
          rw[←hx,←hy] at HNUM
          rw[←hx] at c1
          rw[←hy] at c2
          rw[←hz] at d1
          rw[←hi1] at c1 c2 hj0 hj1 hz' hz'' hzb hzi hi2 HB HN HSU HNUM hlt hj ⊢
          have hj2:i1≤6:=by omega
          have HI1:Hid (i1=j'+1):=hi1
          clear hc' hx hy hz HBAD HALL HA hi1
          have K:=fun W=>zjd x y W
          obtain⟨nb,hnb⟩:∃ nb,nb=(za4 x && za4 y):=⟨_,rfl⟩
          rw[←hnb] at K HSU HNUM
          clear hnb
          have AB:Below wr.heap.size wr (wr.alloc (.cells #[.int .i64 x,.int .i64 y] 62)):=(Below.refl _ _).alloc (Nat.le_refl _) _
          have AN:=heap_alloc_new wr (.cells #[.int .i64 x,.int .i64 y] 62)
          go_wp2_with fail
          refine (K _).mono ?_
          rintro e w1 ⟨rfl,b1⟩
          have AW:=AB.trans (b1.mono AB.size)
          have B1:=hbel.trans (AW.mono hsz)
          have an:=(b1.block wr.heap.size (by simp)).trans AN
          have z0:w1.cell? ⟨wr.heap.size,0,none⟩=some (.int .i64 x):=by simp only[World.cell?,an];rfl
          have d2:=(AW.cell (p:=⟨b,off+j'*2,none⟩) hbl).trans d1
          clear K b1 AN an AB d1
          cases nb with
          | false =>
            have HR:Hid (r=false):=HB.out (HNUM.out rfl)
            go_wp2
            go_ret
            obtain rfl:=HR.out
            exact⟨rfl,by first | exact B1 | exact zdx B1⟩
          | true =>
            by_cases hge:z<x
            · have hgb:decide (x≤z)=false:=decide_eq_false (by omega)
              have hgn:¬ x≤z:=by omega
              have HT:Hid (seOk ss i1=true):=by rw[Hid,HSU.out rfl];simpa using hge
              go_wp2
              go_quiet (fail)
              go_wp2
              go_roundw
              case rel=>exact⟨i1+1,by omega,by first | rfl | go_num,HN.out HT.out,by first | exact B1 | exact zdx B1⟩
              case measure=>simp[intOf];omega
            · have hgb:decide (x≤z)=true:=decide_eq_true (by omega)
              have hgn:x≤z:=by omega
              have HR:Hid (r=false):=HB.out (by rw[HSU.out rfl];simpa using hge)
              go_wp2
              go_quiet (fail)
              go_wp2
              go_ret
              obtain rfl:=HR.out
              exact⟨rfl,by first | exact B1 | exact zdx B1⟩
      · have hjl:j=ss.length:=by omega
        subst hjl
        have HR:Hid (r=true):=HALL.out HA.out
        clear hc' HBAD HALL HA
        go_wp2
        go_ret
        obtain rfl:=HR.out
        exact⟨rfl,hbel⟩
 · have h6':¬ (ss.length:Int)≤6:=by omega
   have HR:Hid (zav ss=false):=zql ss h6
   rw[HR.out]
   clear hs HR
   go_enter Tryz.func55,Tryz.ntmps55
   go_wp2
   go_ret
   exact⟨rfl,Below.refl _ _⟩
abbrev se5 : Oper := { dst := some 18, op := Op.call { callee := Callee.value (Operand.func 41), args := #[Operand.tmp 17, Operand.const (Value.int IntKind.i64 1), Operand.const (Value.int IntKind.i64 1000000000000)], argTypes := #[2, 2, 2] }, type := 4, pos := "l10_replicas.go:22", after := #[{ on := 4, ground := Ground.data }], guard := none }
abbrev se13 : Oper := { dst := some 26, op := Op.call { callee := Callee.value (Operand.func 41), args := #[Operand.tmp 25, Operand.const (Value.int IntKind.i64 1), Operand.const (Value.int IntKind.i64 1000000000000)], argTypes := #[2, 2, 2] }, type := 4, pos := "l10_replicas.go:22", after := #[{ on := 12, ground := Ground.data }, { on := 7, ground := Ground.chain }, { on := 7, ground := Ground.guard }], guard := some (7, false) }
theorem za1h (a : Option Addr) (cap : Nat) (ss : List zg) (w : World) (hl : ss.length ≤ 1048576) (hs : IsSess w a ss) :
 Calls Tryz.prog 42 #[.slice a ss.length cap] w fun e w'=>e=.returned (.bool (zav ss))∧Below w.heap.size w w':=by
 by_cases h6:ss.length≤6
 · have h6' : (ss.length : Int) ≤ 6 := by omega
   rcases hs with rfl | ⟨b,off,rfl,hc⟩
   · go_enter Tryz.func42,Tryz.ntmps42
     go_wp2
     refine wp_loop_rounds 1 ?_
     rw[rounds_succ]
     go_wp2
     go_ret
     exact⟨rfl,Below.refl _ _⟩
   · have hc' : ∀ j, j < ss.length → w.cell? ⟨b, off + j * 2, none⟩ = some (.int .i64 (seAt ss j).1) ∧ w.cell? ⟨b, off + j * 2 + 1, none⟩ = some (.int .i64 (seAt ss j).2) := fun j h => by rw [zgp ss j h]; exact hc j h
     obtain⟨r,hr⟩:∃ r,r=zav ss:=⟨_,rfl⟩
     have HBAD:Hid (∀ j,j<ss.length→seOk ss j=false→r=false):=fun j h hb=>by rw[hr];exact zqm ss j h hb
     have HALL:Hid ((∀ j,j<ss.length→seOk ss j=true)→r=true):=fun h=>by rw[hr];exact zqn ss h6 h
     rw[←hr]
     clear hc hr
     go_enter Tryz.func42,Tryz.ntmps42
     go_wp2
     go_loopw [3] (fun i wr=>∃ j:Nat,j≤ss.length∧i=.int .i64 (j:Int)∧Hid (∀ k,k<j→seOk ss k=true)∧Below w.heap.size w wr) (fun i _=>ss.length - (intOf i).toNat)
     case atStart=>exact⟨0,Nat.zero_le _,rfl,fun k hk=>by omega,Below.refl _ _⟩
     case round =>
      obtain⟨j,hj,rfl,HA,hbel⟩:=hrel
      have hsz:=hbel.size
      by_cases hlt:j<ss.length
      · obtain ⟨c1', c2'⟩ := hc' j hlt
        have c1:=(hbel.cell (p:=⟨b,off+j*2,none⟩) (World.block_lt_of_cell? w _ c1')).trans c1'
        have c2:=(hbel.cell (p:=⟨b,off+j*2+1,none⟩) (World.block_lt_of_cell? w _ c2')).trans c2'
        clear c1' c2'
        have hj0:(0:Int)≤(j:Int):=by omega
        have hj1:(j:Int)<(ss.length:Int):=by omega
        have HB:Hid (seOk ss j=false→r=false):=HBAD.out j hlt
        have HN:Hid (seOk ss j=true→∀ k,k<j+1→seOk ss k=true):=fun h k hk=>by
         by_cases e:k=j
         · rw[e];exact h
         · exact HA.out k (by omega)
        have HNUM:Hid ((za4 (seAt ss j).1 && za4 (seAt ss j).2)=false→seOk ss j=false):=zqo ss j
        have hbl:=World.block_lt_of_cell? wr _ c1
        obtain⟨i0,hi0⟩:∃ i0,i0=j - 1:=⟨_,rfl⟩
        obtain⟨d1',_⟩:=hc' i0 (by omega)
        have d1:=(hbel.cell (p:=⟨b,off+i0*2,none⟩) (World.block_lt_of_cell? w _ d1')).trans d1'
        have HSU:Hid ((za4 (seAt ss j).1 && za4 (seAt ss j).2)=true→seOk ss j=(decide (j=0) || decide ((seAt ss i0).1<(seAt ss j).1))):=fun h=>by unfold seOk;rw[h,hi0];simp
        obtain⟨x,hx⟩:∃ x,x=(seAt ss j).1:=⟨_,rfl⟩
        obtain⟨y,hy⟩:∃ y,y=(seAt ss j).2:=⟨_,rfl⟩
        obtain⟨z,hz⟩:∃ z,z=(seAt ss i0).1:=⟨_,rfl⟩
        rw[←hx,←hy,←hz] at HSU
        rw[←hx,←hy] at HNUM
        rw[←hx] at c1
        rw[←hy] at c2
        rw[←hz] at d1
        have KS:Hid (∀ W,Below wr.heap.size wr W→W.cell? ⟨b,off+j*2,none⟩=some (.int .i64 x)∧W.cell? ⟨b,off+j*2+1,none⟩=some (.int .i64 y)∧W.cell? ⟨b,off+i0*2,none⟩=some (.int .i64 z)):=fun W hW=>⟨(hW.cell (p:=⟨b,off+j*2,none⟩) hbl).trans c1,(hW.cell (p:=⟨b,off+j*2+1,none⟩) hbl).trans c2,(hW.cell (p:=⟨b,off+i0*2,none⟩) hbl).trans d1⟩
        have BD:Below wr.heap.size wr wr.drew:=⟨rfl,rfl,rfl,Nat.le_refl _,fun _ _=>rfl⟩
        have HBB:Hid (∀ W,Below wr.heap.size wr W→Below w.heap.size w W):=fun W hW=>hbel.trans (hW.mono hsz)
        have K1:=fun W=>zg0 x 1 1000000000000 W
        have K2:=fun W=>zg0 y 1 1000000000000 W
        have HX:Hid (za4 x=decide (1≤x∧x≤1000000000000)∧za4 y=decide (1≤y∧y≤1000000000000)):=⟨rfl,rfl⟩
        obtain⟨xo,hxo⟩:∃ xo,xo=decide (1≤x∧x≤1000000000000):=⟨_,rfl⟩
        obtain⟨yo,hyo⟩:∃ yo,yo=decide (1≤y∧y≤1000000000000):=⟨_,rfl⟩
        rw[←hxo] at K1 HX
        rw[←hyo] at K2 HX
        rw[HX.out.1,HX.out.2] at HSU HNUM
        have HI0:Hid (i0=j - 1):=hi0
        clear hxo hyo HX hbel c1 c2 d1 d1' hx hy hz hi0 hc' HBAD HALL HA
        go_wp2_with fail
        refine wp_region_held_drew (S:=(fun w'=>w'.cell? ⟨b,off+j*2,none⟩=some (.int .i64 x)∧w'.cell? ⟨b,off+j*2+1,none⟩=some (.int .i64 y)∧w'.cell? ⟨b,off+i0*2,none⟩=some (.int .i64 z))) (by kernel_rfl) (KS.out _ BD) (fun hHeld=>?_)
        refine yL 0 ?_
        refine yL 1 ?_
        refine yL 2 ?_
        refine yL 3 ?_
        refine yL 4 ?_
        refine wpAnyH_ready (rs:=[5]) (by kernel_rfl) (by simp) ?_
        refine AllReadyH.cons (o:=se5) rfl (fun K hK=>?_) AllReadyH.nil
        go_simp
        go_at_call 41
        with_reducible refine (K1 _).mono ?_
        rintro e wa ⟨rfl,bwa⟩
        have Bwa:=BD.trans (bwa.mono BD.size)
        clear hHeld
        refine hK.out _ _ (KS.out wa Bwa) (fun hHeld=>?_)
        clear hK K
        refine yL 6 ?_
        refine yL 7 ?_
        cases xo with
        | false =>
          have HR:Hid (r=false):=HB.out (HNUM.out rfl)
          refine nL 8 ?_
          refine nL 9 ?_
          refine nL 10 ?_
          refine nL 11 ?_
          refine nL 12 ?_
          refine nL 13 ?_
          refine nL 14 ?_
          refine yL 15 ?_
          refine yL 16 ?_
          refine nL 17 ?_
          refine nL 18 ?_
          refine nL 19 ?_
          refine nL 20 ?_
          refine nL 21 ?_
          refine nL 22 ?_
          refine nL 23 ?_
          refine nL 24 ?_
          refine nL 25 ?_
          refine nL 26 ?_
          refine nL 27 ?_
          refine nL 28 ?_
          refine nL 29 ?_
          refine nL 30 ?_
          refine nL 31 ?_
          refine nL 32 ?_
          refine yL 33 ?_
          refine wpAnyH_done (by kernel_rfl) ?_ _
          go_wp2
          go_ret
          obtain rfl:=HR.out
          exact⟨rfl,HBB.out _ Bwa⟩
        | true =>
          refine yL 8 ?_
          refine yL 9 ?_
          refine yL 10 ?_
          refine yL 11 ?_
          refine yL 12 ?_
          refine wpAnyH_ready (rs:=[13]) (by kernel_rfl) (by simp) ?_
          refine AllReadyH.cons (o:=se13) rfl (fun K hK=>?_) AllReadyH.nil
          go_simp
          go_at_call 41
          with_reducible refine (K2 _).mono ?_
          rintro e wb ⟨rfl,bwb⟩
          have Bwb:=Bwa.trans (bwb.mono Bwa.size)
          clear hHeld
          refine hK.out _ _ (KS.out wb Bwb) (fun hHeld=>?_)
          clear hK K
          refine yL 14 ?_
          refine yL 15 ?_
          refine yL 16 ?_
          cases yo with
          | false =>
            have HR:Hid (r=false):=HB.out (HNUM.out rfl)
            refine nL 17 ?_
            refine nL 18 ?_
            refine nL 19 ?_
            refine nL 20 ?_
            refine nL 21 ?_
            refine nL 22 ?_
            refine nL 23 ?_
            refine nL 24 ?_
            refine nL 25 ?_
            refine nL 26 ?_
            refine nL 27 ?_
            refine nL 28 ?_
            refine nL 29 ?_
            refine nL 30 ?_
            refine nL 31 ?_
            refine nL 32 ?_
            refine yL 33 ?_
            refine wpAnyH_done (by kernel_rfl) ?_ _
            go_wp2
            go_ret
            obtain rfl:=HR.out
            exact⟨rfl,HBB.out _ Bwb⟩
          | true =>
            by_cases hz:j=0
            · have hz0:¬ (0:Int)<(j:Int):=by omega
              have hz1:¬ 0<j:=by omega
              have hzb:decide ((0:Int)<(j:Int))=false:=decide_eq_false hz0
              have HT:Hid (seOk ss j=true):=by rw[Hid,HSU.out rfl,decide_eq_true hz];rfl
              clear hz
              refine yL 17 ?_
              refine yL 18 ?_
              refine yL 19 ?_
              refine nL 20 ?_
              refine nL 21 ?_
              refine nL 22 ?_
              refine nL 23 ?_
              refine nL 24 ?_
              refine nL 25 ?_
              refine nL 26 ?_
              refine nL 27 ?_
              refine nL 28 ?_
              refine nL 29 ?_
              refine nL 30 ?_
              refine nL 31 ?_
              refine yL 32 ?_
              refine yL 33 ?_
              refine wpAnyH_done (by kernel_rfl) ?_ _
              go_wp2
              go_roundw
              case rel=>exact⟨j+1,by omega,by first | rfl | go_num,HN.out HT.out,HBB.out _ Bwb⟩
              case measure=>simp[intOf];omega
            · have hz':(0:Int)<(j:Int):=by omega
              have hz'':0<j:=by omega
              have hzb:decide ((0:Int)<(j:Int))=true:=decide_eq_true hz'
              have hi2:(j:Int) - 1=(i0:Int):=by have:=HI0.out;omega
              have hzi:IntKind.i64.wrap ((j:Int) - 1)=(i0:Int):=by rw[zag _ (by omega) (by omega)];exact hi2
              have hzt:((i0:Int)).toNat=i0:=by omega
              have hzw:IntKind.i64.wrap (i0:Int)=(i0:Int):=zag _ (by omega) (by omega)
              have hi0:(0:Int)≤(i0:Int):=by omega
              have hi3:(i0:Int)<(ss.length:Int):=by omega
              refine yL 17 ?_
              refine yL 18 ?_
              refine yL 19 ?_
              refine yL 20 ?_
              refine yL 21 ?_
              refine yL 22 ?_
              refine yL 23 ?_
              refine yL 24 ?_
              refine yL 25 ?_
              refine yL 26 ?_
              refine yL 27 ?_
              refine yL 28 ?_
              refine yL 29 ?_
              refine yL 30 ?_
              by_cases hge:z<x
              · have hgb:decide (x≤z)=false:=decide_eq_false (by omega)
                have hgn:¬ x≤z:=by omega
                have HT:Hid (seOk ss j=true):=by rw[Hid,HSU.out rfl,decide_eq_true hge];simp
                refine yL 31 ?_
                refine yL 32 ?_
                refine yL 33 ?_
                refine wpAnyH_done (by kernel_rfl) ?_ _
                go_wp2
                go_roundw
                case rel=>exact⟨j+1,by omega,by first | rfl | go_num,HN.out HT.out,HBB.out _ Bwb⟩
                case measure=>simp[intOf];omega
              · have hgb:decide (x≤z)=true:=decide_eq_true (by omega)
                have hgn:x≤z:=by omega
                have HR:Hid (r=false):=HB.out (by rw[HSU.out rfl,decide_eq_false hge,decide_eq_false hz];rfl)
                refine yL 31 ?_
                refine yL 32 ?_
                refine yL 33 ?_
                refine wpAnyH_done (by kernel_rfl) ?_ _
                go_wp2
                go_ret
                obtain rfl:=HR.out
                exact⟨rfl,HBB.out _ Bwb⟩
      · have hjl:j=ss.length:=by omega
        subst hjl
        have HR:Hid (r=true):=HALL.out HA.out
        clear hc' HBAD HALL HA
        go_wp2
        go_ret
        obtain rfl:=HR.out
        exact⟨rfl,hbel⟩
 · have h6':¬ (ss.length:Int)≤6:=by omega
   have HR:Hid (zav ss=false):=zql ss h6
   rw[HR.out]
   clear hs HR
   go_enter Tryz.func42,Tryz.ntmps42
   go_wp2
   go_ret
   exact⟨rfl,Below.refl _ _⟩
theorem za1i (ps qs : List za) (a c : Option Addr) (n m : Nat) (w : World) (hl : ps.length ≤ 16777216) (hl2 : qs.length ≤ 16777216) (hu : IsPairs w a ps) (hv : IsPairs w c qs) :
 Calls Tryz.prog 58 #[.slice a ps.length n,.slice c qs.length m] w fun e w'=>e=.returned (.bool (decide (ps=qs)))∧Below w.heap.size w w':=by
 by_cases hlen:ps.length=qs.length
 · have h0 : (ps.length : Int) = (qs.length : Int) := by omega
   rw[←hlen]
   rcases hu with rfl | ⟨b,off,rfl,h1⟩
   · have hq:qs=[]:=List.length_eq_zero_iff.1 hlen.symm
     subst hq
     go_enter Tryz.func58,Tryz.ntmps58
     go_wp2
     refine wp_loop_rounds 1 ?_
     rw[rounds_succ]
     go_wp2
     go_ret
     exact⟨rfl,Below.refl _ _⟩
   · rcases hv with rfl | ⟨d, of2, rfl, h2⟩
     · have hq:ps=[]:=List.length_eq_zero_iff.1 hlen
       subst hq
       go_enter Tryz.func58,Tryz.ntmps58
       go_wp2
       refine wp_loop_rounds 1 ?_
       rw[rounds_succ]
       go_wp2
       go_ret
       exact⟨rfl,Below.refl _ _⟩
     · obtain⟨res,hres⟩:∃ res,res=decide (ps=qs):=⟨_,rfl⟩
       have HNO:Hid (∀ j (h:j<ps.length) (h':j<qs.length),ps[j]≠qs[j]→res=false):=fun j h h' hne=>by
        rw[hres,decide_eq_false_iff_not]
        intro e
        subst e
        exact hne rfl
       have HYES:Hid ((∀ j (h:j<ps.length) (h':j<qs.length),ps[j]=qs[j])→res=true):=fun h=>by
        rw[hres,decide_eq_true_eq]
        exact List.ext_getElem hlen (fun j h1 h2=>h j h1 h2)
       rw[←hres]
       have HLEN:Hid (ps.length=qs.length):=hlen
       clear hres hlen
       go_enter Tryz.func58,Tryz.ntmps58
       go_wp2
       go_loopw [5,13] (fun _ i wr=>∃ j:Nat,j≤ps.length∧i=.int .i64 (j:Int)∧Hid (∀ k (h:k<ps.length) (h':k<qs.length),k<j→ps[k]=qs[k])∧Below w.heap.size w wr) (fun _ i _=>ps.length - (intOf i).toNat)
       case atStart=>exact⟨0,Nat.zero_le _,rfl,fun k _ _ hk=>by omega,Below.refl _ _⟩
       case round =>
        obtain⟨j,hj,rfl,HA,hbel⟩:=hrel
        have hsz:=hbel.size
        by_cases hlt:j<ps.length
        · have hlt2:j<qs.length:=by have:=HLEN.out;omega
          have c1:=(hbel.cell (p:=⟨b,off+j*2,none⟩) (World.block_lt_of_cell? w _ (h1 j hlt).1)).trans (h1 j hlt).1
          have c2:=(hbel.cell (p:=⟨b,off+j*2+1,none⟩) (World.block_lt_of_cell? w _ (h1 j hlt).2)).trans (h1 j hlt).2
          have d1:=(hbel.cell (p:=⟨d,of2+j*2,none⟩) (World.block_lt_of_cell? w _ (h2 j hlt2).1)).trans (h2 j hlt2).1
          have d2:=(hbel.cell (p:=⟨d,of2+j*2+1,none⟩) (World.block_lt_of_cell? w _ (h2 j hlt2).2)).trans (h2 j hlt2).2
          have hj0:(0:Int)≤(j:Int):=by omega
          have hj1:(j:Int)<(ps.length:Int):=by omega
          have HB:Hid (ps[j]≠qs[j]→res=false):=HNO.out j hlt hlt2
          have HN:Hid (ps[j]=qs[j]→∀ k (h:k<ps.length) (h':k<qs.length),k<j+1→ps[k]=qs[k]):=fun e k h h' hk=>by
           by_cases ek:k=j
           · subst ek;exact e
           · exact HA.out k h h' (by omega)
          obtain⟨⟨u1,u2⟩,hu⟩:∃ u,u=ps[j]:=⟨_,rfl⟩
          obtain⟨⟨v1,v2⟩,hv⟩:∃ v,v=qs[j]:=⟨_,rfl⟩
          rw[←hu] at c1 c2 HB HN
          rw[←hv] at d1 d2 HB HN
          simp only at c1 c2 d1 d2
          have heq:∀ W:World,(binOp .neq 59 (.agg #[.string ⟨u1.toArray⟩,.string ⟨u2.toArray⟩]) (.agg #[.string ⟨v1.toArray⟩,.string ⟨v2.toArray⟩])).run Tryz.prog W=.ok (.bool (!decide ((u1,u2)=(v1,v2)))) W:=fun W=>zlo u1 u2 v1 v2 W
          clear h1 h2 hu hv HA HNO HYES
          by_cases huv:(u1,u2)=(v1,v2)
          · have hdc:decide ((u1,u2)=(v1,v2))=true:=by simpa using huv
            rw[hdc] at heq
            have HE:Hid ((u1,u2)=(v1,v2)):=huv
            clear hdc huv
            go_wp2
            go_quiet (fail)
            go_wp2
            go_roundw
            case rel=>exact⟨j+1,by omega,by go_num,HN.out HE.out,by first | exact hbel | exact zdx hbel⟩
            case measure=>simp[intOf];omega
          · have hdc:decide ((u1,u2)=(v1,v2))=false:=by simpa using huv
            rw[hdc] at heq
            have HR:Hid (res=false):=HB.out huv
            clear hdc huv
            go_wp2
            go_quiet (fail)
            go_wp2
            go_ret
            obtain rfl:=HR.out
            exact⟨rfl,by first | exact hbel | exact zdx hbel⟩
        · have HR:Hid (res=true):=HYES.out (fun k h h'=>HA.out k h h' (by omega))
          have hjn:j=ps.length:=by omega
          subst hjn
          clear h1 h2 HNO HYES HA
          go_wp2
          go_ret
          obtain rfl:=HR.out
          exact⟨rfl,hbel⟩
 · have h0:¬ (ps.length:Int)=(qs.length:Int):=by omega
   have HR:Hid (decide (ps=qs)=false):=by rw[Hid,decide_eq_false_iff_not];intro e;exact hlen (by rw[e])
   rw[HR.out]
   clear hu hv HR
   go_enter Tryz.func58,Tryz.ntmps58
   go_wp2
   go_ret
   exact⟨rfl,Below.refl _ _⟩
theorem za1j (ps qs : List za) (a c : Option Addr) (n m : Nat) (w : World) (hl : ps.length ≤ 16777216) (hl2 : qs.length ≤ 16777216) (hu : IsPairs w a ps) (hv : IsPairs w c qs) :
 Calls Tryz.prog 45 #[.slice a ps.length n,.slice c qs.length m] w fun e w'=>e=.returned (.bool (decide (ps=qs)))∧Below w.heap.size w w':=by
 by_cases hlen:ps.length=qs.length
 · have h0 : (ps.length : Int) = (qs.length : Int) := by omega
   rw[←hlen]
   rcases hu with rfl | ⟨b,off,rfl,h1⟩
   · have hq:qs=[]:=List.length_eq_zero_iff.1 hlen.symm
     subst hq
     go_enter Tryz.func45,Tryz.ntmps45
     go_wp2
     refine wp_loop_rounds 1 ?_
     rw[rounds_succ]
     go_wp2
     go_ret
     exact⟨rfl,Below.refl _ _⟩
   · rcases hv with rfl | ⟨d, of2, rfl, h2⟩
     · have hq:ps=[]:=List.length_eq_zero_iff.1 hlen
       subst hq
       go_enter Tryz.func45,Tryz.ntmps45
       go_wp2
       refine wp_loop_rounds 1 ?_
       rw[rounds_succ]
       go_wp2
       go_ret
       exact⟨rfl,Below.refl _ _⟩
     · obtain⟨res,hres⟩:∃ res,res=decide (ps=qs):=⟨_,rfl⟩
       have HNO:Hid (∀ j (h:j<ps.length) (h':j<qs.length),ps[j]≠qs[j]→res=false):=fun j h h' hne=>by
        rw[hres,decide_eq_false_iff_not]
        intro e
        subst e
        exact hne rfl
       have HYES:Hid ((∀ j (h:j<ps.length) (h':j<qs.length),ps[j]=qs[j])→res=true):=fun h=>by
        rw[hres,decide_eq_true_eq]
        exact List.ext_getElem hlen (fun j h1 h2=>h j h1 h2)
       rw[←hres]
       have HLEN:Hid (ps.length=qs.length):=hlen
       clear hres hlen
       go_enter Tryz.func45,Tryz.ntmps45
       go_wp2
       go_loopw [5] (fun i wr=>∃ j:Nat,j≤ps.length∧i=.int .i64 (j:Int)∧Hid (∀ k (h:k<ps.length) (h':k<qs.length),k<j→ps[k]=qs[k])∧Below w.heap.size w wr) (fun i _=>ps.length - (intOf i).toNat)
       case atStart=>exact⟨0,Nat.zero_le _,rfl,fun k _ _ hk=>by omega,Below.refl _ _⟩
       case round =>
        obtain⟨j,hj,rfl,HA,hbel⟩:=hrel
        have hsz:=hbel.size
        by_cases hlt:j<ps.length
        · have hlt2:j<qs.length:=by have:=HLEN.out;omega
          have c1:=(hbel.cell (p:=⟨b,off+j*2,none⟩) (World.block_lt_of_cell? w _ (h1 j hlt).1)).trans (h1 j hlt).1
          have c2:=(hbel.cell (p:=⟨b,off+j*2+1,none⟩) (World.block_lt_of_cell? w _ (h1 j hlt).2)).trans (h1 j hlt).2
          have d1:=(hbel.cell (p:=⟨d,of2+j*2,none⟩) (World.block_lt_of_cell? w _ (h2 j hlt2).1)).trans (h2 j hlt2).1
          have d2:=(hbel.cell (p:=⟨d,of2+j*2+1,none⟩) (World.block_lt_of_cell? w _ (h2 j hlt2).2)).trans (h2 j hlt2).2
          have hj0:(0:Int)≤(j:Int):=by omega
          have hj1:(j:Int)<(ps.length:Int):=by omega
          have HB:Hid (ps[j]≠qs[j]→res=false):=HNO.out j hlt hlt2
          have HN:Hid (ps[j]=qs[j]→∀ k (h:k<ps.length) (h':k<qs.length),k<j+1→ps[k]=qs[k]):=fun e k h h' hk=>by
           by_cases ek:k=j
           · subst ek;exact e
           · exact HA.out k h h' (by omega)
          obtain⟨⟨u1,u2⟩,hu⟩:∃ u,u=ps[j]:=⟨_,rfl⟩
          obtain⟨⟨v1,v2⟩,hv⟩:∃ v,v=qs[j]:=⟨_,rfl⟩
          rw[←hu] at c1 c2 HB HN
          rw[←hv] at d1 d2 HB HN
          simp only at c1 c2 d1 d2
          have heq:∀ W:World,(binOp .neq 59 (.agg #[.string ⟨u1.toArray⟩,.string ⟨u2.toArray⟩]) (.agg #[.string ⟨v1.toArray⟩,.string ⟨v2.toArray⟩])).run Tryz.prog W=.ok (.bool (!decide ((u1,u2)=(v1,v2)))) W:=fun W=>zlo u1 u2 v1 v2 W
          clear h1 h2 hu hv HA HNO HYES
          by_cases huv:(u1,u2)=(v1,v2)
          · have hdc:decide ((u1,u2)=(v1,v2))=true:=by simpa using huv
            rw[hdc] at heq
            have HE:Hid ((u1,u2)=(v1,v2)):=huv
            clear hdc huv
            go_wp2
            go_quiet (fail)
            go_wp2
            go_roundw
            case rel=>exact⟨j+1,by omega,by go_num,HN.out HE.out,by first | exact hbel | exact zdx hbel⟩
            case measure=>simp[intOf];omega
          · have hdc:decide ((u1,u2)=(v1,v2))=false:=by simpa using huv
            rw[hdc] at heq
            have HR:Hid (res=false):=HB.out huv
            clear hdc huv
            go_wp2
            go_quiet (fail)
            go_wp2
            go_ret
            obtain rfl:=HR.out
            exact⟨rfl,by first | exact hbel | exact zdx hbel⟩
        · have HR:Hid (res=true):=HYES.out (fun k h h'=>HA.out k h h' (by omega))
          have hjn:j=ps.length:=by omega
          subst hjn
          clear h1 h2 HNO HYES HA
          go_wp2
          go_ret
          obtain rfl:=HR.out
          exact⟨rfl,hbel⟩
 · have h0:¬ (ps.length:Int)=(qs.length:Int):=by omega
   have HR:Hid (decide (ps=qs)=false):=by rw[Hid,decide_eq_false_iff_not];intro e;exact hlen (by rw[e])
   rw[HR.out]
   clear hu hv HR
   go_enter Tryz.func45,Tryz.ntmps45
   go_wp2
   go_ret
   exact⟨rfl,Below.refl _ _⟩
end Go.Proofs.YtppljdnbhoeeoaaGreatDoor
