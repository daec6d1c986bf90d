/-
 Texts that are laid as one: MathPair, PairS.
-/
import Derived.Test.YtdcmncjoppmlhaaMathAll
import Derived.Test.YtdcmncjoppmlhaaStrsAll
import Derived.OneCell
import Derived.Deep.RegionHeld3
namespace Go.Proofs.Ytdcmncjoppmlhaa
open Go.RowKit
set_option linter.unusedVariables false
abbrev PairL:=List UInt8 × List UInt8
def pcells:List PairL→List Value
 | []=>[]
 | p :: ps=>.string ⟨p.1.toArray⟩ :: .string ⟨p.2.toArray⟩ :: pcells ps
theorem pcells_length (ps:List PairL):(pcells ps).length=ps.length*2:=by
 induction ps with
 | nil=>rfl
 | cons p ps ih=>simp[pcells,ih];omega
theorem pcells_app (a b:List PairL):pcells (a ++ b)=pcells a ++ pcells b:=by
 induction a with
 | nil=>rfl
 | cons p ps ih=>simp[pcells,ih]
theorem pcells_at (ps:List PairL) (j:Nat) (h:j<ps.length):(pcells ps)[j*2]? = some (.string ⟨ps[j].1.toArray⟩)∧(pcells ps)[j*2+1]? = some (.string ⟨ps[j].2.toArray⟩):=by
 induction ps generalizing j with
 | nil=>simp at h
 | cons p ps ih =>
   match j,h with
   | 0,_=>exact⟨rfl,rfl⟩
   | j + 1, h =>
     have:=ih j (by simpa using h)
     have e:(j+1)*2=j*2+1+1:=by omega
     rw[e]
     simpa [pcells] using this
def IsPairs (w:World) (a:Option Addr) (ps:List PairL):Prop :=
 ps=[]∨∃ b off,a=some ⟨b,off,none⟩∧∀ j (h:j<ps.length),w.cell? ⟨b,off+j*2,none⟩=some (.string ⟨ps[j].1.toArray⟩)∧w.cell? ⟨b,off+j*2+1,none⟩=some (.string ⟨ps[j].2.toArray⟩)
theorem IsPairs.later {w w':World} {a:Option Addr} {ps:List PairL} (h:IsPairs w a ps) (hb:Below w.heap.size w w'):IsPairs w' a ps:=by
 rcases h with h | ⟨b,off,h1,h2⟩
 · exact .inl h
 · exact .inr ⟨b,off,h1,fun j h=>⟨(hb.cell (p:=⟨b,off+j*2,none⟩) (World.block_lt_of_cell? w _ (h2 j h).1)).trans (h2 j h).1,(hb.cell (p:=⟨b,off+j*2+1,none⟩) (World.block_lt_of_cell? w _ (h2 j h).2)).trans (h2 j h).2⟩⟩
theorem isPairs_own {w:World} {base e n:Nat} {a:Option Addr} {m cap:Nat} {ps:List PairL} (h:w.ownsRow base e 2 (.slice a m cap) n (pcells ps)):m=ps.length∧n=ps.length∧IsPairs w a ps:=by
 have hl:ps.length=n:=by have:=h.1;rw[pcells_length] at this;omega
 rcases h.2 with ⟨h',h0⟩ | ⟨g,cap',cur,h',_⟩
 · cases h'
   exact⟨by omega,by omega,.inl (List.length_eq_zero_iff.1 (by omega))⟩
 · cases h'
   exact⟨by omega,by omega,.inr ⟨g,0,rfl,fun j hj=>by
    rw[Nat.zero_add,h.cellAt (j*2) (by omega),h.cellAt (j*2+1) (by omega)]
    exact pcells_at ps j hj⟩⟩
theorem own_cases2 {w:World} {base e n:Nat} {v:Value} {xs:List Value} (h:w.ownsRow base e 2 v n xs) :
 (v=.slice none 0 0∧n=0∧xs=[])∨∃ g cap,v=.slice (some ⟨g,0,none⟩) n cap∧base≤g∧g<w.heap.size∧(∀ j,j<n*2→w.cell? ⟨g,j,none⟩=xs[j]?)∧∀ j,w.frozen? ⟨g,j,none⟩=false:=by
 rcases h.2 with ⟨rfl,hn⟩ | ⟨g,cap,cur,rfl,hb,hg,_⟩
 · exact .inl ⟨rfl,hn,List.length_eq_zero_iff.1 (by rw[h.1,hn])⟩
 · exact .inr ⟨g,cap,rfl,hb,lt_of_block hg,fun j hj=>h.cellAt j hj,fun j=>h.frozenAt j⟩
theorem own_slice2 {w:World} {base e size n:Nat} {v:Value} {xs:List Value} (h:w.ownsRow base e size v n xs):∃ a m c,v=.slice a m c:=by
 rcases h.2 with ⟨rfl,_⟩ | ⟨g,cap,cur,rfl,_⟩
 · exact⟨_,_,_,rfl⟩
 · exact⟨_,_,_,rfl⟩
theorem kept2 {w w':World} {b e n:Nat} {v:Value} {xs:List Value} (h:w.ownsRow b e 2 v n xs) (hb:Below w.heap.size w w'):w'.ownsRow b e 2 v n xs :=
 h.kept (row:=none) ⟨hb.os,hb.tape,hb.output,hb.size,fun k hk _=>hb.block k hk⟩ (by cases v.ownBlock with | none=>exact .inl rfl | some k=>exact .inr (by simp))
def laidP (ps:List PairL) (j:Nat):List Value:=pcells (ps.take j) ++ List.replicate ((ps.length - j)*2) (.string ⟨#[]⟩)
theorem laidP_length (ps:List PairL) (j:Nat) (h:j≤ps.length):(laidP ps j).length=ps.length*2:=by
 simp[laidP,pcells_length,Nat.min_eq_left h]
 try omega
theorem laidP_all (ps:List PairL):laidP ps ps.length=pcells ps:=by simp[laidP]
theorem laidP_zero (ps:List PairL):laidP ps 0=List.replicate (ps.length*2) (.string ⟨#[]⟩):=by simp[laidP,pcells]
theorem take_snocP (ps:List PairL) (j:Nat) (h:j<ps.length):ps.take (j+1)=ps.take j ++ [ps[j]]:=by rw[List.take_succ_eq_append_getElem h]
theorem laidP_step (ps:List PairL) (j:Nat) (h:j<ps.length):((laidP ps j).set (j*2) (.string ⟨ps[j].1.toArray⟩)).set (j*2+1) (.string ⟨ps[j].2.toArray⟩)=laidP ps (j+1):=by
 have hl:(pcells (ps.take j)).length=j*2:=by rw[pcells_length,List.length_take];omega
 have e:(ps.length - j)*2=(ps.length - (j+1))*2+1+1:=by omega
 simp only[laidP,take_snocP ps j h,pcells_app,e,List.replicate_succ]
 rw[List.set_append_right _ _ (by omega),hl,Nat.sub_self,List.set_append_right _ _ (by omega),hl]
 simp[pcells]
def marksP (k n:Nat):List PairL:=(List.range n).map fun i=>(markT (k+2*i),markT (k+2*i+1))
theorem marksP_length (k n:Nat):(marksP k n).length=n:=by simp[marksP]
theorem marksP_at (k n j:Nat) (h:j<(marksP k n).length):(marksP k n)[j]=(markT (k+2*j),markT (k+2*j+1)):=by simp[marksP]
theorem marksP_snoc (k j:Nat):marksP k (j+1)=marksP k j ++ [(markT (k+2*j),markT (k+2*j+1))]:=by simp[marksP,List.range_succ]
def markedP (k j:Nat) (ps:List PairL):List Value:=pcells (marksP k j) ++ pcells (ps.drop j)
theorem markedP_zero (k:Nat) (ps:List PairL):markedP k 0 ps=pcells ps:=by simp[markedP,marksP,pcells]
theorem markedP_all (k:Nat) (ps:List PairL):markedP k ps.length ps=pcells (marksP k ps.length):=by simp[markedP,pcells]
theorem markedP_length (k j:Nat) (ps:List PairL) (h:j≤ps.length):(markedP k j ps).length=ps.length*2:=by simp[markedP,pcells_length,marksP_length];omega
theorem markedP_step (k j:Nat) (ps:List PairL) (h:j<ps.length):((markedP k j ps).set (j*2) (.string ⟨(markT (k+2*j)).toArray⟩)).set (j*2+1) (.string ⟨(markT (k+2*j+1)).toArray⟩)=markedP k (j+1) ps:=by
 have hl:(pcells (marksP k j)).length=j*2:=by rw[pcells_length,marksP_length]
 have e:ps.drop j=ps[j] :: ps.drop (j+1):=by rw[List.drop_eq_getElem_cons h]
 simp only[markedP,marksP_snoc,pcells_app,e,pcells]
 rw[List.set_append_right _ _ (by omega),hl,Nat.sub_self,List.set_append_right _ _ (by omega),hl]
 simp
theorem made_pairs (n:Nat):(madeCells (Value.agg #[.string ⟨#[]⟩,.string ⟨#[]⟩]).cells (n*2)).toList=List.replicate (n*2) (.string ⟨#[]⟩):=by
 apply List.ext_getElem?
 intro j
 by_cases hj:j<n*2
 · rcases Nat.mod_two_eq_zero_or_one j with h | h <;> simp[madeCells,hj,Value.cells,h]
 · simp[madeCells,hj]
theorem duo_set_cell {w:World} {b j:Nat} {x y:Value} {a:Addr} (h:a.block≠b):((w.setCell ⟨b,j,none⟩ x).setCell ⟨b,j+1,none⟩ y).cell? a=w.cell? a :=
 World.cell?_of_block ((Below.heap_setCell _ _ _ _ (by simpa using h)).trans (Below.heap_setCell _ _ _ _ (by simpa using h)))
def sizeP (ps:List PairL):Nat:=(ps.map fun p=>p.1.length+p.2.length).sum
theorem sizeP_snoc (ps:List PairL) (j:Nat) (h:j<ps.length):sizeP (ps.take (j+1))=sizeP (ps.take j)+(ps[j].1.length+ps[j].2.length):=by
 rw[take_snocP ps j h];simp only[sizeP,List.map_append,List.sum_append,List.map_cons,List.map_nil,List.sum_cons,List.sum_nil,Nat.add_zero]
theorem sizeP_le (ps:List PairL) (j:Nat) (h:j<ps.length):ps[j].1.length+ps[j].2.length≤sizeP ps:=by
 have h1:sizeP ps=sizeP (ps.take (j+1))+sizeP (ps.drop (j+1)):=by
  conv=>lhs;rw[←List.take_append_drop (j+1) ps]
  simp only[sizeP,List.map_append,List.sum_append]
 rw[h1,sizeP_snoc ps j h];omega
theorem infoPair:(Try.prog.info? 54).map (fun i=>(i.zero,i.size,i.bytes))=some (some (.agg #[.string ⟨#[]⟩,.string ⟨#[]⟩]),2,32):=by kernel_rfl
set_option maxRecDepth 100000 in
theorem toPair_any (k v:List UInt8) (w:World) :
 Calls Try.prog 24 #[.agg #[.string ⟨k.toArray⟩,.string ⟨v.toArray⟩]] w fun e w'=>e=.returned (.agg #[.string ⟨k.toArray⟩,.string ⟨v.toArray⟩])∧Below w.heap.size w w':=by
 go_enter Try.func24,Try.ntmps24
 go_wp2
 have hb:(((w.alloc (.cells #[.string ⟨k.toArray⟩,.string ⟨v.toArray⟩] 47)).alloc (.cells #[.string ⟨k.toArray⟩,.string ⟨v.toArray⟩] 54)).alloc (.cells #[.string ⟨k.toArray⟩,.string ⟨v.toArray⟩] 54)).heap[w.heap.size+1]? = some (.cells #[.string ⟨k.toArray⟩,.string ⟨v.toArray⟩] 54 (0,0)):=by
  rw[Below.heap_alloc _ _ _ (by simp)]
  have:=heap_alloc_new (w.alloc (.cells #[.string ⟨k.toArray⟩,.string ⟨v.toArray⟩] 47)) (.cells #[.string ⟨k.toArray⟩,.string ⟨v.toArray⟩] 54)
  simpa using this
 exact bodyPost_ret (v:=.agg #[.string ⟨k.toArray⟩,.string ⟨v.toArray⟩]) (results_cell_row rfl _ _ (w.heap.size+1) 54 _ (0,0) _ rfl hb Try.underlying54 rfl (by kernel_rfl)) rfl ⟨rfl,(((Below.refl _ _).alloc (Nat.le_refl _) _).alloc (by simp) _).alloc (by simp;omega) _⟩
set_option maxRecDepth 100000 in
theorem szPair_any (k v:List UInt8) (q:Nat) (w:World) (hq:q≤1048576) (hk:k.length≤9223372036854775807) (hv:v.length≤9223372036854775807) :
 Calls Try.prog 19 #[.agg #[.string ⟨k.toArray⟩,.string ⟨v.toArray⟩],.int .i64 (q:Int)] w fun e w'=>((q<k.length+v.length∧e=.returned (.int .i64 (-1)))∨(k.length+v.length≤q∧e=.returned (.int .i64 ((q - (k.length+v.length):Nat):Int))))∧Below w.heap.size w w':=by
 have hb:Below w.heap.size w (w.alloc (.cells #[.string ⟨k.toArray⟩,.string ⟨v.toArray⟩] 47)):=(Below.refl _ _).alloc (Nat.le_refl _) _
 by_cases h1:k.length≤q
 · have h1':(k.length:Int)≤(q:Int):=by omega
   by_cases h2:k.length+v.length≤q
   · have h2':(v.length:Int)≤(q:Int) - (k.length:Int):=by omega
     have HE:Hid ((q:Int) - (k.length:Int) - (v.length:Int)=((q - (k.length+v.length):Nat):Int)):=by rw[Hid];omega
     go_enter Try.func19,Try.ntmps19
     go_wp2
     go_ret
     exact⟨.inr ⟨h2,by rw[←HE.out];rfl⟩,hb⟩
   · have h2':¬ (v.length:Int)≤(q:Int) - (k.length:Int):=by omega
     go_enter Try.func19,Try.ntmps19
     go_wp2
     go_ret
     first | exact⟨.inl ⟨by omega,rfl⟩,hb⟩ | exact⟨⟨by omega,rfl⟩,hb⟩
 · have h1':¬ (k.length:Int)≤(q:Int):=by omega
   go_enter Try.func19,Try.ntmps19
   go_wp2
   go_ret
   first | exact⟨.inl ⟨by omega,rfl⟩,hb⟩ | exact⟨⟨by omega,rfl⟩,hb⟩
set_option maxRecDepth 100000 in
set_option maxHeartbeats 400000 in
theorem szPairS_any (a : Option Addr) (cap : Nat) (ps : List PairL) (w : World) (hl : ps.length ≤ 9223372036854775807) (hm : ∀ p ∈ ps, p.1.length ≤ 9223372036854775807 ∧ p.2.length ≤ 9223372036854775807) (hs : IsPairs w a ps) :
 Calls Try.prog 5 #[.slice a ps.length cap,.int .i64 1048576] w fun e w'=>(e=.returned (.int .i64 (-1))∨(ps.length+sizeP ps≤1048576∧∃ n:Nat,e=.returned (.int .i64 (n:Int))))∧Below w.heap.size w w':=by
 by_cases hb:ps.length≤1048576
 · rcases hs with rfl | ⟨b, off, rfl, hc⟩
   · go_enter Try.func5,Try.ntmps5
     go_wp2
     refine wp_loop_rounds 1 ?_
     rw[rounds_succ]
     go_wp2
     go_ret
     exact⟨.inr ⟨by simp[sizeP],1048576,rfl⟩,Below.refl _ _⟩
   · have hm' : ∀ j (h : j < ps.length), ps[j].1.length ≤ 9223372036854775807 ∧ ps[j].2.length ≤ 9223372036854775807 := fun j h => hm _ (List.getElem_mem _)
     clear hm
     go_enter Try.func5,Try.ntmps5
     go_wp2
     go_loopw [1,5] (fun v i wr=>∃ j q:Nat,j≤ps.length∧i=.int .i64 (j:Int)∧v=.int .i64 (q:Int)∧q+ps.length+sizeP (ps.take j)=1048576∧Below w.heap.size w wr) (fun _ i _=>ps.length - (intOf i).toNat)
     case atStart=>exact⟨0,1048576 - ps.length,Nat.zero_le _,rfl,by simp;omega,by simp[sizeP];omega,Below.refl _ _⟩
     case round =>
      obtain⟨j,q,hj,rfl,rfl,hq,hbel⟩:=hrel
      have hsz:=hbel.size
      by_cases hlt:j<ps.length
      · have c1:=(hbel.cell (p:=⟨b,off+j*2,none⟩) (World.block_lt_of_cell? w _ (hc j hlt).1)).trans (hc j hlt).1
        have c2:=(hbel.cell (p:=⟨b,off+j*2+1,none⟩) (World.block_lt_of_cell? w _ (hc j hlt).2)).trans (hc j hlt).2
        have m1:=hm' j hlt
        have HS:Hid (sizeP (ps.take (j+1))=sizeP (ps.take j)+(ps[j].1.length+ps[j].2.length)):=sizeP_snoc ps j hlt
        have hj0:(0:Int)≤(j:Int):=by omega
        have hj1:(j:Int)<(ps.length:Int):=by omega
        have hqs:q≤1048576:=by omega
        have HQ:Hid (q+ps.length+sizeP (ps.take j)=1048576):=hq
        obtain⟨x,hx⟩:∃ x,x=ps[j].1:=⟨_,rfl⟩
        obtain⟨y,hy⟩:∃ y,y=ps[j].2:=⟨_,rfl⟩
        rw[←hx] at c1 m1 HS
        rw[←hy] at c2 m1 HS
        have K:=fun W=>szPair_any x y q W hqs m1.1 m1.2
        clear hc hm' hx hy hq m1
        go_wp2_with fail
        refine (K _).mono ?_
        rintro e w1 ⟨he,b1⟩
        have B1:=hbel.trans (b1.mono hsz)
        clear K b1 hbel
        rcases he with ⟨hn,rfl⟩ | ⟨hn,rfl⟩
        · go_wp2
          go_ret
          exact⟨.inl rfl,B1⟩
        · go_wp2
          go_roundw
          case rel=>exact⟨j+1,_,by omega,by go_num,rfl,by have:=HS.out;have:=HQ.out;omega,B1⟩
          case measure=>simp[intOf];omega
      · have hjl:j=ps.length:=by omega
        subst hjl
        have HQ:Hid (ps.length+sizeP ps≤1048576):=by rw[Hid];rw[List.take_length] at hq;omega
        clear hq
        go_wp2
        go_ret
        exact⟨.inr ⟨HQ.out,q,rfl⟩,hbel⟩
 · have hb':¬ (ps.length:Int)≤1048576:=by omega
   clear hs hm
   go_enter Try.func5,Try.ntmps5
   go_wp2
   go_ret
   exact⟨.inl rfl,Below.refl _ _⟩
set_option maxRecDepth 100000 in
set_option maxHeartbeats 400000 in
theorem toPairS_any (a:Option Addr) (cap:Nat) (ps:List PairL) (w:World) (hl:ps.length≤1048576) (hs:IsPairs w a ps) :
 Calls Try.prog 8 #[.slice a ps.length cap] w fun e w'=>e=.returned (.slice (some ⟨w.heap.size,0,none⟩) ps.length ps.length)∧w'.ownsRow w.heap.size 54 2 (.slice (some ⟨w.heap.size,0,none⟩) ps.length ps.length) ps.length (pcells ps)∧Below w.heap.size w w':=by
 obtain⟨i0,hi0,hz0,hz1,hz2⟩:=info_parts infoPair
 go_enter Try.func8,Try.ntmps8
 go_wp2_with (at_make;refine wpList_make_full _ rfl _ _ 28 rfl w.heap.size 54 i0 (.agg #[.string ⟨#[]⟩,.string ⟨#[]⟩]) 2 Try.underlying28 hi0 hz0 hz1 _ _ _ _ ps.length rfl rfl (by omega) (by omega) (by rw[hz2];omega) (by unfold maxLen;omega) (Nat.le_refl _) ?_;intro w0 hown0 hgrow0)
 rw[made_pairs] at hown0
 have hb0:=(Below.refl w.heap.size w).grown hgrow0 (Nat.le_refl _) (by simp)
 have hs0:=hgrow0.size
 rcases hs with rfl | ⟨b,off,rfl,hc⟩
 · refine wp_loop_rounds 1 ?_
   rw[rounds_succ]
   go_wp2
   go_ret
   exact⟨rfl,hown0,hb0⟩
 · clear hgrow0
   go_loopw [4] (fun i wr=>∃ j:Nat,j≤ps.length∧i=.int .i64 (j:Int)∧wr.ownsRow w.heap.size 54 2 (.slice (some ⟨w.heap.size,0,none⟩) ps.length ps.length) ps.length (laidP ps j)∧Below w.heap.size w wr) (fun i _=>ps.length - (intOf i).toNat)
   case atStart=>exact⟨0,Nat.zero_le _,rfl,by rw[laidP_zero];exact hown0,hb0⟩
   case round =>
    obtain⟨j,hj,rfl,hown,hbel⟩:=hrel
    have hsz:=hbel.size
    by_cases hlt:j<ps.length
    · have hbl:=World.block_lt_of_cell? w _ (hc j hlt).1
      have c1:=(hbel.cell (p:=⟨b,off+j*2,none⟩) hbl).trans (hc j hlt).1
      have c2:=(hbel.cell (p:=⟨b,off+j*2+1,none⟩) hbl).trans (hc j hlt).2
      simp only at hbl
      have hlt2:=own_lt hown
      have HST:Hid (∀ W,Below wr.heap.size wr W→(W.setCell ⟨w.heap.size,j*2,none⟩ (.string ⟨ps[j].1.toArray⟩)).ownsRow w.heap.size 54 2 (.slice (some ⟨w.heap.size,0,none⟩) ps.length ps.length) ps.length ((laidP ps j).set (j*2) (.string ⟨ps[j].1.toArray⟩))):=fun W hW=>((kept2 hown hW).stored (j*2) _).1
      have HL2:Hid (((laidP ps j).set (j*2) (.string ⟨ps[j].1.toArray⟩)).set (j*2+1) (.string ⟨ps[j].2.toArray⟩)=laidP ps (j+1)):=laidP_step ps j hlt
      have hj0:(0:Int)≤(j:Int):=by omega
      have hj1:(j:Int)<(ps.length:Int):=by omega
      have HOW:=hidOwn hown
      have HLEN:Hid ((laidP ps j).length=ps.length*2):=laidP_length ps j (by omega)
      obtain⟨x,hx⟩:∃ x,x=ps[j].1:=⟨_,rfl⟩
      obtain⟨y,hy⟩:∃ y,y=ps[j].2:=⟨_,rfl⟩
      rw[←hx] at c1 HST HL2
      rw[←hy] at c2 HL2
      have K:=toPair_any x y wr
      clear hc hx hy hown hown0 hb0
      go_wp2_with fail
      refine K.mono ?_
      rintro e w1 ⟨rfl,b1⟩
      have hO1:=kept2 HOW.out b1
      obtain⟨o1,ho1⟩:∃ o,w1.cell? ⟨w.heap.size,j*2,none⟩=some o:=by rw[hO1.cellAt (j*2) (by omega)];exact⟨_,List.getElem?_eq_getElem (by rw[HLEN.out];omega)⟩
      obtain⟨o2,ho2⟩:∃ o,w1.cell? ⟨w.heap.size,j*2+1,none⟩=some o:=by rw[hO1.cellAt (j*2+1) (by omega)];exact⟨_,List.getElem?_eq_getElem (by rw[HLEN.out];omega)⟩
      have hf1:=hO1.frozenAt (j*2)
      have hf2:=hO1.frozenAt (j*2+1)
      have hst:=((hO1.stored (j*2) (.string ⟨x.toArray⟩)).1.stored (j*2+1) (.string ⟨y.toArray⟩)).1
      rw[HL2.out] at hst
      have HS2:=hidOwn hst
      have hb2:=((hbel.trans (b1.mono hsz)).setCell (p:=⟨w.heap.size,j*2,none⟩) (Nat.le_refl _) (.string ⟨x.toArray⟩)).setCell (p:=⟨w.heap.size,j*2+1,none⟩) (Nat.le_refl _) (.string ⟨y.toArray⟩)
      clear hO1 b1 hst HOW HST HL2 K
      go_wp2
      go_roundw
      case rel=>exact⟨j+1,by omega,by go_num,HS2.out,hb2⟩
      case measure=>simp[intOf];omega
    · have hjl:j=ps.length:=by omega
      subst hjl
      rw[laidP_all] at hown
      clear hown0 hb0
      go_wp2
      go_ret
      exact⟨rfl,hown,hbel⟩
set_option maxRecDepth 100000 in
set_option maxHeartbeats 400000 in
theorem eqPair_same (k v:List UInt8) (w:World) :
 Calls Try.prog 30 #[.agg #[.string ⟨k.toArray⟩,.string ⟨v.toArray⟩],.agg #[.string ⟨k.toArray⟩,.string ⟨v.toArray⟩]] w fun e w'=>e=.returned (.bool true)∧Below w.heap.size w w':=by
 go_enter Try.func30,Try.ntmps30
 go_wp2
 go_ret
 exact⟨rfl,((Below.refl _ _).alloc (Nat.le_refl _) _).alloc (by simp) _⟩
set_option maxRecDepth 100000 in
set_option maxHeartbeats 400000 in
theorem eqPairS_same (ps : List PairL) (a c : Option Addr) (n m : Nat) (w : World) (hl : ps.length ≤ 16777216) (hu : IsPairs w a ps) (hv : IsPairs w c ps) :
 Calls Try.prog 11 #[.slice a ps.length n,.slice c ps.length m] w fun e w'=>e=.returned (.bool true)∧Below w.heap.size w w':=by
 rcases hu with rfl | ⟨b,off,rfl,h1⟩
 · go_enter Try.func11,Try.ntmps11
   go_wp2
   refine wp_loop_rounds 1 ?_
   rw[rounds_succ]
   go_wp2
   go_ret
   exact⟨rfl,Below.refl _ _⟩
 · rcases hv with rfl | ⟨d,of2,rfl,h2⟩
   · go_enter Try.func11,Try.ntmps11
     go_wp2
     refine wp_loop_rounds 1 ?_
     rw[rounds_succ]
     go_wp2
     go_ret
     exact⟨rfl,Below.refl _ _⟩
   · go_enter Try.func11,Try.ntmps11
     go_wp2
     go_loopw [5] (fun i wr=>∃ j:Nat,j≤ps.length∧i=.int .i64 (j:Int)∧Below w.heap.size w wr) (fun i _=>ps.length - (intOf i).toNat)
     case atStart=>exact⟨0,Nat.zero_le _,rfl,Below.refl _ _⟩
     case round =>
      obtain⟨j,hj,rfl,hbel⟩:=hrel
      have hsz:=hbel.size
      by_cases hlt:j<ps.length
      · have c1:=(hbel.cell (p:=⟨b,off+j*2,none⟩) (World.block_lt_of_cell? w _ (h1 j hlt).1)).trans (h1 j hlt).1
        have c2:=(hbel.cell (p:=⟨b,off+j*2+1,none⟩) (World.block_lt_of_cell? w _ (h1 j hlt).2)).trans (h1 j hlt).2
        have d1:=(hbel.cell (p:=⟨d,of2+j*2,none⟩) (World.block_lt_of_cell? w _ (h2 j hlt).1)).trans (h2 j hlt).1
        have d2:=(hbel.cell (p:=⟨d,of2+j*2+1,none⟩) (World.block_lt_of_cell? w _ (h2 j hlt).2)).trans (h2 j hlt).2
        have hj0:(0:Int)≤(j:Int):=by omega
        have hj1:(j:Int)<(ps.length:Int):=by omega
        obtain⟨x,hx⟩:∃ x,x=ps[j].1:=⟨_,rfl⟩
        obtain⟨y,hy⟩:∃ y,y=ps[j].2:=⟨_,rfl⟩
        rw[←hx] at c1 d1
        rw[←hy] at c2 d2
        have K:=fun W=>eqPair_same x y W
        clear h1 h2 hx hy
        go_wp2_with fail
        go_region_held3 (fun w'=>w'.cell? ⟨b,off+j*2,none⟩=some (.string ⟨x.toArray⟩)∧w'.cell? ⟨b,off+j*2+1,none⟩=some (.string ⟨y.toArray⟩)∧w'.cell? ⟨d,of2+j*2,none⟩=some (.string ⟨x.toArray⟩)∧w'.cell? ⟨d,of2+j*2+1,none⟩=some (.string ⟨y.toArray⟩))
         (first | (exact⟨by assumption,by assumption,by assumption,by assumption⟩) | go_keep)
         ((go_at_call 30
           refine (K _).mono ?_
           rintro e w1 ⟨rfl,b1'⟩
           have b1:Below wr.heap.size wr w1:=⟨b1'.os,b1'.tape,b1'.output,b1'.size,b1'.block⟩
           have x1:=(b1.cell (p:=⟨b,off+j*2,none⟩) (World.block_lt_of_cell? wr _ c1)).trans c1
           have x2:=(b1.cell (p:=⟨b,off+j*2+1,none⟩) (World.block_lt_of_cell? wr _ c2)).trans c2
           have y1:=(b1.cell (p:=⟨d,of2+j*2,none⟩) (World.block_lt_of_cell? wr _ d1)).trans d1
           have y2:=(b1.cell (p:=⟨d,of2+j*2+1,none⟩) (World.block_lt_of_cell? wr _ d2)).trans d2
           have B1:=hbel.trans (b1.mono hsz)))
        all_goals
         clear K
         go_wp2
         go_roundw
         case rel=>exact⟨j+1,by omega,by go_num,B1⟩
         case measure=>simp[intOf];omega
      · go_wp2
        go_ret
        exact⟨rfl,hbel⟩
end Go.Proofs.Ytdcmncjoppmlhaa
