import Derived.Test.YtlllkdioojjaeaaMathAll
import Derived.Test.YtlllkdioojjaeaaStrsAll
import Derived.OneCell
import Derived.Deep.RegionHeld3
import Derived.Test.YtlllkdioojjaeaaMath2
import Derived.BigQuiet
import Derived.Deep.QuietTactic
import Derived.Test.YtlllkdioojjaeaaStrsX
namespace Go.Proofs.Ytlllkdioojjaeaa
open Go.RowKit
set_option linter.unusedVariables false
abbrev PairL:=List UInt8 × List UInt8
def pcells:List PairL→List Value
 | []=>[]
 | p :: ps=>.string ⟨p.1.toArray⟩ :: .string ⟨p.2.toArray⟩ :: pcells ps
theorem pcells_length (ps:List PairL):(pcells ps).length=ps.length*2:=by
 induction ps with
 | nil=>rfl
 | cons p ps ih=>simp[pcells,ih];omega
theorem pcells_app (a b:List PairL):pcells (a ++ b)=pcells a ++ pcells b:=by
 induction a with
 | nil=>rfl
 | cons p ps ih=>simp[pcells,ih]
theorem pcells_at (ps:List PairL) (j:Nat) (h:j<ps.length):(pcells ps)[j*2]? = some (.string ⟨ps[j].1.toArray⟩)∧(pcells ps)[j*2+1]? = some (.string ⟨ps[j].2.toArray⟩):=by
 induction ps generalizing j with
 | nil=>simp at h
 | cons p ps ih =>
   match j,h with
   | 0,_=>exact⟨rfl,rfl⟩
   | j + 1, h =>
     have:=ih j (by simpa using h)
     have e:(j+1)*2=j*2+1+1:=by omega
     rw[e]
     simpa [pcells] using this
def IsPairs (w:World) (a:Option Addr) (ps:List PairL):Prop :=
 ps=[]∨∃ b off,a=some ⟨b,off,none⟩∧∀ j (h:j<ps.length),w.cell? ⟨b,off+j*2,none⟩=some (.string ⟨ps[j].1.toArray⟩)∧w.cell? ⟨b,off+j*2+1,none⟩=some (.string ⟨ps[j].2.toArray⟩)
theorem IsPairs.later {w w':World} {a:Option Addr} {ps:List PairL} (h:IsPairs w a ps) (hb:Below w.heap.size w w'):IsPairs w' a ps:=by
 rcases h with h | ⟨b,off,h1,h2⟩
 · exact .inl h
 · exact .inr ⟨b,off,h1,fun j h=>⟨(hb.cell (p:=⟨b,off+j*2,none⟩) (World.block_lt_of_cell? w _ (h2 j h).1)).trans (h2 j h).1,(hb.cell (p:=⟨b,off+j*2+1,none⟩) (World.block_lt_of_cell? w _ (h2 j h).2)).trans (h2 j h).2⟩⟩
theorem isPairs_own {w:World} {base e n:Nat} {a:Option Addr} {m cap:Nat} {ps:List PairL} (h:w.ownsRow base e 2 (.slice a m cap) n (pcells ps)):m=ps.length∧n=ps.length∧IsPairs w a ps:=by
 have hl:ps.length=n:=by have:=h.1;rw[pcells_length] at this;omega
 rcases h.2 with ⟨h',h0⟩ | ⟨g,cap',cur,h',_⟩
 · cases h'
   exact⟨by omega,by omega,.inl (List.length_eq_zero_iff.1 (by omega))⟩
 · cases h'
   exact⟨by omega,by omega,.inr ⟨g,0,rfl,fun j hj=>by
    rw[Nat.zero_add,h.cellAt (j*2) (by omega),h.cellAt (j*2+1) (by omega)]
    exact pcells_at ps j hj⟩⟩
theorem own_cases2 {w:World} {base e n:Nat} {v:Value} {xs:List Value} (h:w.ownsRow base e 2 v n xs) :
 (v=.slice none 0 0∧n=0∧xs=[])∨∃ g cap,v=.slice (some ⟨g,0,none⟩) n cap∧base≤g∧g<w.heap.size∧(∀ j,j<n*2→w.cell? ⟨g,j,none⟩=xs[j]?)∧∀ j,w.frozen? ⟨g,j,none⟩=false:=by
 rcases h.2 with ⟨rfl,hn⟩ | ⟨g,cap,cur,rfl,hb,hg,_⟩
 · exact .inl ⟨rfl,hn,List.length_eq_zero_iff.1 (by rw[h.1,hn])⟩
 · exact .inr ⟨g,cap,rfl,hb,lt_of_block hg,fun j hj=>h.cellAt j hj,fun j=>h.frozenAt j⟩
theorem own_slice2 {w:World} {base e size n:Nat} {v:Value} {xs:List Value} (h:w.ownsRow base e size v n xs):∃ a m c,v=.slice a m c:=by
 rcases h.2 with ⟨rfl,_⟩ | ⟨g,cap,cur,rfl,_⟩
 · exact⟨_,_,_,rfl⟩
 · exact⟨_,_,_,rfl⟩
theorem kept2 {w w':World} {b e n:Nat} {v:Value} {xs:List Value} (h:w.ownsRow b e 2 v n xs) (hb:Below w.heap.size w w'):w'.ownsRow b e 2 v n xs :=
 h.kept (row:=none) ⟨hb.os,hb.tape,hb.output,hb.size,fun k hk _=>hb.block k hk⟩ (by cases v.ownBlock with | none=>exact .inl rfl | some k=>exact .inr (by simp))
def laidP (ps:List PairL) (j:Nat):List Value:=pcells (ps.take j) ++ List.replicate ((ps.length - j)*2) (.string ⟨#[]⟩)
theorem laidP_length (ps:List PairL) (j:Nat) (h:j≤ps.length):(laidP ps j).length=ps.length*2:=by
 simp[laidP,pcells_length,Nat.min_eq_left h]
 try omega
theorem laidP_all (ps:List PairL):laidP ps ps.length=pcells ps:=by simp[laidP]
theorem laidP_zero (ps:List PairL):laidP ps 0=List.replicate (ps.length*2) (.string ⟨#[]⟩):=by simp[laidP,pcells]
theorem take_snocP (ps:List PairL) (j:Nat) (h:j<ps.length):ps.take (j+1)=ps.take j ++ [ps[j]]:=by rw[List.take_succ_eq_append_getElem h]
theorem laidP_step (ps:List PairL) (j:Nat) (h:j<ps.length):((laidP ps j).set (j*2) (.string ⟨ps[j].1.toArray⟩)).set (j*2+1) (.string ⟨ps[j].2.toArray⟩)=laidP ps (j+1):=by
 have hl:(pcells (ps.take j)).length=j*2:=by rw[pcells_length,List.length_take];omega
 have e:(ps.length - j)*2=(ps.length - (j+1))*2+1+1:=by omega
 simp only[laidP,take_snocP ps j h,pcells_app,e,List.replicate_succ]
 rw[List.set_append_right _ _ (by omega),hl,Nat.sub_self,List.set_append_right _ _ (by omega),hl]
 simp[pcells]
def marksP (k n:Nat):List PairL:=(List.range n).map fun i=>(markT (k+2*i),markT (k+2*i+1))
theorem marksP_length (k n:Nat):(marksP k n).length=n:=by simp[marksP]
theorem marksP_at (k n j:Nat) (h:j<(marksP k n).length):(marksP k n)[j]=(markT (k+2*j),markT (k+2*j+1)):=by simp[marksP]
theorem marksP_snoc (k j:Nat):marksP k (j+1)=marksP k j ++ [(markT (k+2*j),markT (k+2*j+1))]:=by simp[marksP,List.range_succ]
def markedP (k j:Nat) (ps:List PairL):List Value:=pcells (marksP k j) ++ pcells (ps.drop j)
theorem markedP_zero (k:Nat) (ps:List PairL):markedP k 0 ps=pcells ps:=by simp[markedP,marksP,pcells]
theorem markedP_all (k:Nat) (ps:List PairL):markedP k ps.length ps=pcells (marksP k ps.length):=by simp[markedP,pcells]
theorem markedP_length (k j:Nat) (ps:List PairL) (h:j≤ps.length):(markedP k j ps).length=ps.length*2:=by simp[markedP,pcells_length,marksP_length];omega
theorem markedP_step (k j:Nat) (ps:List PairL) (h:j<ps.length):((markedP k j ps).set (j*2) (.string ⟨(markT (k+2*j)).toArray⟩)).set (j*2+1) (.string ⟨(markT (k+2*j+1)).toArray⟩)=markedP k (j+1) ps:=by
 have hl:(pcells (marksP k j)).length=j*2:=by rw[pcells_length,marksP_length]
 have e:ps.drop j=ps[j] :: ps.drop (j+1):=by rw[List.drop_eq_getElem_cons h]
 simp only[markedP,marksP_snoc,pcells_app,e,pcells]
 rw[List.set_append_right _ _ (by omega),hl,Nat.sub_self,List.set_append_right _ _ (by omega),hl]
 simp
theorem made_pairs (n:Nat):(madeCells (Value.agg #[.string ⟨#[]⟩,.string ⟨#[]⟩]).cells (n*2)).toList=List.replicate (n*2) (.string ⟨#[]⟩):=by
 apply List.ext_getElem?
 intro j
 by_cases hj:j<n*2
 · rcases Nat.mod_two_eq_zero_or_one j with h | h <;> simp[madeCells,hj,Value.cells,h]
 · simp[madeCells,hj]
theorem duo_set_cell {w:World} {b j:Nat} {x y:Value} {a:Addr} (h:a.block≠b):((w.setCell ⟨b,j,none⟩ x).setCell ⟨b,j+1,none⟩ y).cell? a=w.cell? a :=
 World.cell?_of_block ((Below.heap_setCell _ _ _ _ (by simpa using h)).trans (Below.heap_setCell _ _ _ _ (by simpa using h)))
def sizeP (ps:List PairL):Nat:=(ps.map fun p=>p.1.length+p.2.length).sum
theorem sizeP_snoc (ps:List PairL) (j:Nat) (h:j<ps.length):sizeP (ps.take (j+1))=sizeP (ps.take j)+(ps[j].1.length+ps[j].2.length):=by
 rw[take_snocP ps j h];simp only[sizeP,List.map_append,List.sum_append,List.map_cons,List.map_nil,List.sum_cons,List.sum_nil,Nat.add_zero]
theorem sizeP_le (ps:List PairL) (j:Nat) (h:j<ps.length):ps[j].1.length+ps[j].2.length≤sizeP ps:=by
 have h1:sizeP ps=sizeP (ps.take (j+1))+sizeP (ps.drop (j+1)):=by
  conv=>lhs;rw[←List.take_append_drop (j+1) ps]
  simp only[sizeP,List.map_append,List.sum_append]
 rw[h1,sizeP_snoc ps j h];omega
theorem infoFile:(Try.prog.info? 84).map (fun i=>(i.zero,i.size,i.bytes))=some (some (.agg #[.string ⟨#[]⟩,.string ⟨#[]⟩]),2,32):=by kernel_rfl
set_option maxRecDepth 100000 in
theorem toFile_any (k v:List UInt8) (w:World) :
 Calls Try.prog 78 #[.agg #[.string ⟨k.toArray⟩,.string ⟨v.toArray⟩]] w fun e w'=>e=.returned (.agg #[.string ⟨k.toArray⟩,.string ⟨v.toArray⟩])∧Below w.heap.size w w':=by
 go_enter Try.func78,Try.ntmps78
 go_wp2
 have hb:(((w.alloc (.cells #[.string ⟨k.toArray⟩,.string ⟨v.toArray⟩] 105)).alloc (.cells #[.string ⟨k.toArray⟩,.string ⟨v.toArray⟩] 84)).alloc (.cells #[.string ⟨k.toArray⟩,.string ⟨v.toArray⟩] 84)).heap[w.heap.size+1]? = some (.cells #[.string ⟨k.toArray⟩,.string ⟨v.toArray⟩] 84 (0,0)):=by
  rw[Below.heap_alloc _ _ _ (by simp)]
  have:=heap_alloc_new (w.alloc (.cells #[.string ⟨k.toArray⟩,.string ⟨v.toArray⟩] 105)) (.cells #[.string ⟨k.toArray⟩,.string ⟨v.toArray⟩] 84)
  simpa using this
 exact bodyPost_ret (v:=.agg #[.string ⟨k.toArray⟩,.string ⟨v.toArray⟩]) (results_cell_row rfl _ _ (w.heap.size+1) 84 _ (0,0) _ rfl hb Try.underlying84 rfl (by kernel_rfl)) rfl ⟨rfl,(((Below.refl _ _).alloc (Nat.le_refl _) _).alloc (by simp) _).alloc (by simp;omega) _⟩
set_option maxRecDepth 100000 in
theorem szFile_any (k v:List UInt8) (q:Nat) (w:World) (hq:q≤1048576) (hk:k.length≤9223372036854775807) (hv:v.length≤9223372036854775807) :
 Calls Try.prog 74 #[.agg #[.string ⟨k.toArray⟩,.string ⟨v.toArray⟩],.int .i64 (q:Int)] w fun e w'=>((q<k.length+v.length∧e=.returned (.int .i64 (-1)))∨(k.length+v.length≤q∧e=.returned (.int .i64 ((q - (k.length+v.length):Nat):Int))))∧Below w.heap.size w w':=by
 have hb:Below w.heap.size w (w.alloc (.cells #[.string ⟨k.toArray⟩,.string ⟨v.toArray⟩] 105)):=(Below.refl _ _).alloc (Nat.le_refl _) _
 by_cases h1:k.length≤q
 · have h1':(k.length:Int)≤(q:Int):=by omega
   by_cases h2:k.length+v.length≤q
   · have h2':(v.length:Int)≤(q:Int) - (k.length:Int):=by omega
     have HE:Hid ((q:Int) - (k.length:Int) - (v.length:Int)=((q - (k.length+v.length):Nat):Int)):=by rw[Hid];omega
     go_enter Try.func74,Try.ntmps74
     go_wp2
     go_ret
     exact⟨.inr ⟨h2,by rw[←HE.out];rfl⟩,hb⟩
   · have h2':¬ (v.length:Int)≤(q:Int) - (k.length:Int):=by omega
     go_enter Try.func74,Try.ntmps74
     go_wp2
     go_ret
     first | exact⟨.inl ⟨by omega,rfl⟩,hb⟩ | exact⟨⟨by omega,rfl⟩,hb⟩
 · have h1':¬ (k.length:Int)≤(q:Int):=by omega
   go_enter Try.func74,Try.ntmps74
   go_wp2
   go_ret
   first | exact⟨.inl ⟨by omega,rfl⟩,hb⟩ | exact⟨⟨by omega,rfl⟩,hb⟩
set_option maxRecDepth 100000 in
set_option maxHeartbeats 400000 in
theorem szFileS_any (a : Option Addr) (cap : Nat) (ps : List PairL) (w : World) (hl : ps.length ≤ 9223372036854775807) (hm : ∀ p ∈ ps, p.1.length ≤ 9223372036854775807 ∧ p.2.length ≤ 9223372036854775807) (hs : IsPairs w a ps) :
 Calls Try.prog 39 #[.slice a ps.length cap,.int .i64 1048576] w fun e w'=>(e=.returned (.int .i64 (-1))∨(ps.length+sizeP ps≤1048576∧∃ n:Nat,e=.returned (.int .i64 (n:Int))))∧Below w.heap.size w w':=by
 by_cases hb:ps.length≤1048576
 · rcases hs with rfl | ⟨b, off, rfl, hc⟩
   · go_enter Try.func39,Try.ntmps39
     go_wp2
     refine wp_loop_rounds 1 ?_
     rw[rounds_succ]
     go_wp2
     go_ret
     exact⟨.inr ⟨by simp[sizeP],1048576,rfl⟩,Below.refl _ _⟩
   · have hm' : ∀ j (h : j < ps.length), ps[j].1.length ≤ 9223372036854775807 ∧ ps[j].2.length ≤ 9223372036854775807 := fun j h => hm _ (List.getElem_mem _)
     clear hm
     go_enter Try.func39,Try.ntmps39
     go_wp2
     go_loopw [1,5] (fun v i wr=>∃ j q:Nat,j≤ps.length∧i=.int .i64 (j:Int)∧v=.int .i64 (q:Int)∧q+ps.length+sizeP (ps.take j)=1048576∧Below w.heap.size w wr) (fun _ i _=>ps.length - (intOf i).toNat)
     case atStart=>exact⟨0,1048576 - ps.length,Nat.zero_le _,rfl,by simp;omega,by simp[sizeP];omega,Below.refl _ _⟩
     case round =>
      obtain⟨j,q,hj,rfl,rfl,hq,hbel⟩:=hrel
      have hsz:=hbel.size
      by_cases hlt:j<ps.length
      · have c1:=(hbel.cell (p:=⟨b,off+j*2,none⟩) (World.block_lt_of_cell? w _ (hc j hlt).1)).trans (hc j hlt).1
        have c2:=(hbel.cell (p:=⟨b,off+j*2+1,none⟩) (World.block_lt_of_cell? w _ (hc j hlt).2)).trans (hc j hlt).2
        have m1:=hm' j hlt
        have HS:Hid (sizeP (ps.take (j+1))=sizeP (ps.take j)+(ps[j].1.length+ps[j].2.length)):=sizeP_snoc ps j hlt
        have hj0:(0:Int)≤(j:Int):=by omega
        have hj1:(j:Int)<(ps.length:Int):=by omega
        have hqs:q≤1048576:=by omega
        have HQ:Hid (q+ps.length+sizeP (ps.take j)=1048576):=hq
        obtain⟨x,hx⟩:∃ x,x=ps[j].1:=⟨_,rfl⟩
        obtain⟨y,hy⟩:∃ y,y=ps[j].2:=⟨_,rfl⟩
        rw[←hx] at c1 m1 HS
        rw[←hy] at c2 m1 HS
        have K:=fun W=>szFile_any x y q W hqs m1.1 m1.2
        clear hc hm' hx hy hq m1
        go_wp2_with fail
        refine (K _).mono ?_
        rintro e w1 ⟨he,b1⟩
        have B1:=hbel.trans (b1.mono hsz)
        clear K b1 hbel
        rcases he with ⟨hn,rfl⟩ | ⟨hn,rfl⟩
        · go_wp2
          go_ret
          exact⟨.inl rfl,B1⟩
        · go_wp2
          go_roundw
          case rel=>exact⟨j+1,_,by omega,by go_num,rfl,by have:=HS.out;have:=HQ.out;omega,B1⟩
          case measure=>simp[intOf];omega
      · have hjl:j=ps.length:=by omega
        subst hjl
        have HQ:Hid (ps.length+sizeP ps≤1048576):=by rw[Hid];rw[List.take_length] at hq;omega
        clear hq
        go_wp2
        go_ret
        exact⟨.inr ⟨HQ.out,q,rfl⟩,hbel⟩
 · have hb':¬ (ps.length:Int)≤1048576:=by omega
   clear hs hm
   go_enter Try.func39,Try.ntmps39
   go_wp2
   go_ret
   exact⟨.inl rfl,Below.refl _ _⟩
set_option maxRecDepth 100000 in
set_option maxHeartbeats 400000 in
theorem toFileS_any (a:Option Addr) (cap:Nat) (ps:List PairL) (w:World) (hl:ps.length≤1048576) (hs:IsPairs w a ps) :
 Calls Try.prog 45 #[.slice a ps.length cap] w fun e w'=>e=.returned (.slice (some ⟨w.heap.size,0,none⟩) ps.length ps.length)∧w'.ownsRow w.heap.size 84 2 (.slice (some ⟨w.heap.size,0,none⟩) ps.length ps.length) ps.length (pcells ps)∧Below w.heap.size w w':=by
 obtain⟨i0,hi0,hz0,hz1,hz2⟩:=info_parts infoFile
 go_enter Try.func45,Try.ntmps45
 go_wp2_with (at_make;refine wpList_make_full _ rfl _ _ 28 rfl w.heap.size 84 i0 (.agg #[.string ⟨#[]⟩,.string ⟨#[]⟩]) 2 Try.underlying28 hi0 hz0 hz1 _ _ _ _ ps.length rfl rfl (by omega) (by omega) (by rw[hz2];omega) (by unfold maxLen;omega) (Nat.le_refl _) ?_;intro w0 hown0 hgrow0)
 rw[made_pairs] at hown0
 have hb0:=(Below.refl w.heap.size w).grown hgrow0 (Nat.le_refl _) (by simp)
 have hs0:=hgrow0.size
 rcases hs with rfl | ⟨b,off,rfl,hc⟩
 · refine wp_loop_rounds 1 ?_
   rw[rounds_succ]
   go_wp2
   go_ret
   exact⟨rfl,hown0,hb0⟩
 · clear hgrow0
   go_loopw [4] (fun i wr=>∃ j:Nat,j≤ps.length∧i=.int .i64 (j:Int)∧wr.ownsRow w.heap.size 84 2 (.slice (some ⟨w.heap.size,0,none⟩) ps.length ps.length) ps.length (laidP ps j)∧Below w.heap.size w wr) (fun i _=>ps.length - (intOf i).toNat)
   case atStart=>exact⟨0,Nat.zero_le _,rfl,by rw[laidP_zero];exact hown0,hb0⟩
   case round =>
    obtain⟨j,hj,rfl,hown,hbel⟩:=hrel
    have hsz:=hbel.size
    by_cases hlt:j<ps.length
    · have hbl:=World.block_lt_of_cell? w _ (hc j hlt).1
      have c1:=(hbel.cell (p:=⟨b,off+j*2,none⟩) hbl).trans (hc j hlt).1
      have c2:=(hbel.cell (p:=⟨b,off+j*2+1,none⟩) hbl).trans (hc j hlt).2
      simp only at hbl
      have hlt2:=own_lt hown
      have HST:Hid (∀ W,Below wr.heap.size wr W→(W.setCell ⟨w.heap.size,j*2,none⟩ (.string ⟨ps[j].1.toArray⟩)).ownsRow w.heap.size 84 2 (.slice (some ⟨w.heap.size,0,none⟩) ps.length ps.length) ps.length ((laidP ps j).set (j*2) (.string ⟨ps[j].1.toArray⟩))):=fun W hW=>((kept2 hown hW).stored (j*2) _).1
      have HL2:Hid (((laidP ps j).set (j*2) (.string ⟨ps[j].1.toArray⟩)).set (j*2+1) (.string ⟨ps[j].2.toArray⟩)=laidP ps (j+1)):=laidP_step ps j hlt
      have hj0:(0:Int)≤(j:Int):=by omega
      have hj1:(j:Int)<(ps.length:Int):=by omega
      have HOW:=hidOwn hown
      have HLEN:Hid ((laidP ps j).length=ps.length*2):=laidP_length ps j (by omega)
      obtain⟨x,hx⟩:∃ x,x=ps[j].1:=⟨_,rfl⟩
      obtain⟨y,hy⟩:∃ y,y=ps[j].2:=⟨_,rfl⟩
      rw[←hx] at c1 HST HL2
      rw[←hy] at c2 HL2
      have K:=toFile_any x y wr
      clear hc hx hy hown hown0 hb0
      go_wp2_with fail
      refine K.mono ?_
      rintro e w1 ⟨rfl,b1⟩
      have hO1:=kept2 HOW.out b1
      obtain⟨o1,ho1⟩:∃ o,w1.cell? ⟨w.heap.size,j*2,none⟩=some o:=by rw[hO1.cellAt (j*2) (by omega)];exact⟨_,List.getElem?_eq_getElem (by rw[HLEN.out];omega)⟩
      obtain⟨o2,ho2⟩:∃ o,w1.cell? ⟨w.heap.size,j*2+1,none⟩=some o:=by rw[hO1.cellAt (j*2+1) (by omega)];exact⟨_,List.getElem?_eq_getElem (by rw[HLEN.out];omega)⟩
      have hf1:=hO1.frozenAt (j*2)
      have hf2:=hO1.frozenAt (j*2+1)
      have hst:=((hO1.stored (j*2) (.string ⟨x.toArray⟩)).1.stored (j*2+1) (.string ⟨y.toArray⟩)).1
      rw[HL2.out] at hst
      have HS2:=hidOwn hst
      have hb2:=((hbel.trans (b1.mono hsz)).setCell (p:=⟨w.heap.size,j*2,none⟩) (Nat.le_refl _) (.string ⟨x.toArray⟩)).setCell (p:=⟨w.heap.size,j*2+1,none⟩) (Nat.le_refl _) (.string ⟨y.toArray⟩)
      clear hO1 b1 hst HOW HST HL2 K
      go_wp2
      go_roundw
      case rel=>exact⟨j+1,by omega,by go_num,HS2.out,hb2⟩
      case measure=>simp[intOf];omega
    · have hjl:j=ps.length:=by omega
      subst hjl
      rw[laidP_all] at hown
      clear hown0 hb0
      go_wp2
      go_ret
      exact⟨rfl,hown,hbel⟩
set_option maxRecDepth 100000 in
set_option maxHeartbeats 400000 in
theorem eqFile_same (k v:List UInt8) (w:World) :
 Calls Try.prog 82 #[.agg #[.string ⟨k.toArray⟩,.string ⟨v.toArray⟩],.agg #[.string ⟨k.toArray⟩,.string ⟨v.toArray⟩]] w fun e w'=>e=.returned (.bool true)∧Below w.heap.size w w':=by
 go_enter Try.func82,Try.ntmps82
 go_wp2
 go_ret
 exact⟨rfl,((Below.refl _ _).alloc (Nat.le_refl _) _).alloc (by simp) _⟩
set_option maxRecDepth 100000 in
set_option maxHeartbeats 400000 in
theorem eqFileS_same (ps : List PairL) (a c : Option Addr) (n m : Nat) (w : World) (hl : ps.length ≤ 16777216) (hu : IsPairs w a ps) (hv : IsPairs w c ps) :
 Calls Try.prog 53 #[.slice a ps.length n,.slice c ps.length m] w fun e w'=>e=.returned (.bool true)∧Below w.heap.size w w':=by
 rcases hu with rfl | ⟨b,off,rfl,h1⟩
 · go_enter Try.func53,Try.ntmps53
   go_wp2
   refine wp_loop_rounds 1 ?_
   rw[rounds_succ]
   go_wp2
   go_ret
   exact⟨rfl,Below.refl _ _⟩
 · rcases hv with rfl | ⟨d,of2,rfl,h2⟩
   · go_enter Try.func53,Try.ntmps53
     go_wp2
     refine wp_loop_rounds 1 ?_
     rw[rounds_succ]
     go_wp2
     go_ret
     exact⟨rfl,Below.refl _ _⟩
   · go_enter Try.func53,Try.ntmps53
     go_wp2
     go_loopw [5] (fun i wr=>∃ j:Nat,j≤ps.length∧i=.int .i64 (j:Int)∧Below w.heap.size w wr) (fun i _=>ps.length - (intOf i).toNat)
     case atStart=>exact⟨0,Nat.zero_le _,rfl,Below.refl _ _⟩
     case round =>
      obtain⟨j,hj,rfl,hbel⟩:=hrel
      have hsz:=hbel.size
      by_cases hlt:j<ps.length
      · have c1:=(hbel.cell (p:=⟨b,off+j*2,none⟩) (World.block_lt_of_cell? w _ (h1 j hlt).1)).trans (h1 j hlt).1
        have c2:=(hbel.cell (p:=⟨b,off+j*2+1,none⟩) (World.block_lt_of_cell? w _ (h1 j hlt).2)).trans (h1 j hlt).2
        have d1:=(hbel.cell (p:=⟨d,of2+j*2,none⟩) (World.block_lt_of_cell? w _ (h2 j hlt).1)).trans (h2 j hlt).1
        have d2:=(hbel.cell (p:=⟨d,of2+j*2+1,none⟩) (World.block_lt_of_cell? w _ (h2 j hlt).2)).trans (h2 j hlt).2
        have hj0:(0:Int)≤(j:Int):=by omega
        have hj1:(j:Int)<(ps.length:Int):=by omega
        obtain⟨x,hx⟩:∃ x,x=ps[j].1:=⟨_,rfl⟩
        obtain⟨y,hy⟩:∃ y,y=ps[j].2:=⟨_,rfl⟩
        rw[←hx] at c1 d1
        rw[←hy] at c2 d2
        have K:=fun W=>eqFile_same x y W
        clear h1 h2 hx hy
        go_wp2_with fail
        go_region_held3 (fun w'=>w'.cell? ⟨b,off+j*2,none⟩=some (.string ⟨x.toArray⟩)∧w'.cell? ⟨b,off+j*2+1,none⟩=some (.string ⟨y.toArray⟩)∧w'.cell? ⟨d,of2+j*2,none⟩=some (.string ⟨x.toArray⟩)∧w'.cell? ⟨d,of2+j*2+1,none⟩=some (.string ⟨y.toArray⟩))
         (first | (exact⟨by assumption,by assumption,by assumption,by assumption⟩) | go_keep)
         ((go_at_call 82
           refine (K _).mono ?_
           rintro e w1 ⟨rfl,b1'⟩
           have b1:Below wr.heap.size wr w1:=⟨b1'.os,b1'.tape,b1'.output,b1'.size,b1'.block⟩
           have x1:=(b1.cell (p:=⟨b,off+j*2,none⟩) (World.block_lt_of_cell? wr _ c1)).trans c1
           have x2:=(b1.cell (p:=⟨b,off+j*2+1,none⟩) (World.block_lt_of_cell? wr _ c2)).trans c2
           have y1:=(b1.cell (p:=⟨d,of2+j*2,none⟩) (World.block_lt_of_cell? wr _ d1)).trans d1
           have y2:=(b1.cell (p:=⟨d,of2+j*2+1,none⟩) (World.block_lt_of_cell? wr _ d2)).trans d2
           have B1:=hbel.trans (b1.mono hsz)))
        all_goals
         clear K
         go_wp2
         go_roundw
         case rel=>exact⟨j+1,by omega,by go_num,B1⟩
         case measure=>simp[intOf];omega
      · go_wp2
        go_ret
        exact⟨rfl,hbel⟩
set_option maxRecDepth 100000 in
set_option maxHeartbeats 400000 in
theorem markFileS_any (ps:List PairL) (a:Option Addr) (m cap b1 k:Nat) (w:World) (hl:ps.length≤4000000) (hk:0<k) (hk2:k≤4000000) (hv:w.ownsRow b1 84 2 (.slice a m cap) ps.length (pcells ps)) :
 Calls Try.prog 57 #[.slice a m cap,.int .i64 k] w fun e w'=>e=.returned (.int .i64 ((k:Int)+2*(ps.length:Int)))∧w'.ownsRow b1 84 2 (.slice a m cap) ps.length (pcells (marksP k ps.length))∧w.grownBy w' (Value.slice a m cap).ownBlock:=by
 rcases own_cases2 hv with ⟨hv0,hn,hx⟩ | ⟨g,cap',hv0,hg1,hg2,hc,hf⟩
 · cases hv0
   have hls:ps=[]:=List.length_eq_zero_iff.1 hn
   subst hls
   go_enter Try.func57,Try.ntmps57
   go_wp2
   refine wp_loop_rounds 1 ?_
   rw[rounds_succ]
   go_wp2
   go_ret
   exact⟨by simp,hv,World.grownBy.refl _ _⟩
 · cases hv0
   clear hc hf
   go_enter Try.func57,Try.ntmps57
   go_wp2
   go_loopw [1,5] (fun mm i wr=>∃ j:Nat,j≤ps.length∧i=.int .i64 (j:Int)∧mm=.int .i64 ((k+2*j:Nat):Int)∧wr.ownsRow b1 84 2 (.slice (some ⟨g,0,none⟩) ps.length cap) ps.length (markedP k j ps)∧w.grownBy wr (some g)) (fun _ i _=>ps.length - (intOf i).toNat)
   case atStart=>exact⟨0,Nat.zero_le _,rfl,rfl,by rw[markedP_zero];exact hv,World.grownBy.refl _ _⟩
   case round =>
    obtain⟨j,hj,rfl,rfl,hown,hgr⟩:=hrel
    by_cases hlt:j<ps.length
    · have hj1:(j:Int)<(ps.length:Int):=by omega
      have hj0:(0:Int)≤(j:Int):=by omega
      have HLEN:Hid ((markedP k j ps).length=ps.length*2):=markedP_length k j ps (by omega)
      have HSTEP:Hid (((markedP k j ps).set (j*2) (.string ⟨(markT (k+2*j)).toArray⟩)).set (j*2+1) (.string ⟨(markT (k+2*j+1)).toArray⟩)=markedP k (j+1) ps):=markedP_step k j ps hlt
      have K1:=fun W=>markText_any (k+2*j) W (by omega) (by omega)
      have K2:=fun W=>markText_any (k+2*j+1) W (by omega) (by omega)
      rw[show ((k+2*j+1:Nat):Int)=((k+2*j:Nat):Int)+1 by omega] at K2
      obtain⟨q,hq⟩:∃ q,q=k+2*j:=⟨_,rfl⟩
      rw[←hq] at K1 K2 HSTEP ⊢
      have HQ:Hid (q=k+2*j):=hq
      have HO:=hidOwn hown
      have HG:Hid (w.grownBy wr (some g)):=hgr
      have hqs:(q:Int)≤100000000:=by omega
      have hq0:(0:Int)≤(q:Int):=by omega
      obtain⟨t1,ht1⟩:∃ t,t=markT q:=⟨_,rfl⟩
      obtain⟨t2,ht2⟩:∃ t,t=markT (q+1):=⟨_,rfl⟩
      rw[←ht1] at K1 HSTEP
      rw[←ht2] at K2 HSTEP
      clear hown hgr hq ht1 ht2
      go_wp2_with fail
      refine (K1 _).mono ?_
      rintro e w1 ⟨rfl,b1'⟩
      have o1:=kept2 HO.out b1'
      have g1:=HG.out.trans (grown_of_below b1' (some g))
      obtain⟨x1,hx1⟩:∃ o,w1.cell? ⟨g,j*2,none⟩=some o:=by rw[o1.cellAt (j*2) (by omega)];exact⟨_,List.getElem?_eq_getElem (by rw[HLEN.out];omega)⟩
      have f1:=o1.frozenAt (j*2)
      have st1:=o1.stored (j*2) (.string ⟨t1.toArray⟩)
      have O2:=hidOwn st1.1
      have HG2:Hid (w.grownBy (w1.setCell ⟨g,j*2,none⟩ (.string ⟨t1.toArray⟩)) (some g)):=g1.trans st1.2
      clear o1 g1 st1 b1' HO HG
      go_wp2_with fail
      refine (K2 _).mono ?_
      rintro e w2 ⟨rfl,b2'⟩
      have o2:=kept2 O2.out b2'
      have g2:=HG2.out.trans (grown_of_below b2' (some g))
      obtain⟨x2,hx2⟩:∃ o,w2.cell? ⟨g,j*2+1,none⟩=some o:=by rw[o2.cellAt (j*2+1) (by omega)];exact⟨_,List.getElem?_eq_getElem (by rw[List.length_set,HLEN.out];omega)⟩
      have f2:=o2.frozenAt (j*2+1)
      have st2:=o2.stored (j*2+1) (.string ⟨t2.toArray⟩)
      rw[HSTEP.out] at st2
      have O3:=hidOwn st2.1
      have HG3:Hid (w.grownBy (w2.setCell ⟨g,j*2+1,none⟩ (.string ⟨t2.toArray⟩)) (some g)):=g2.trans st2.2
      clear o2 g2 st2 b2' O2 HG2 hx1 f1
      go_wp2
      go_roundw
      case rel=>exact⟨j+1,by omega,by go_num,by have:=HQ.out;congr 1;omega,O3.out,HG3.out⟩
      case measure=>simp[intOf];omega
    · have hjl:j=ps.length:=by omega
      subst hjl
      rw[markedP_all] at hown
      go_wp2
      go_ret
      exact⟨by congr 2,hown,hgr⟩
set_option maxRecDepth 100000 in
set_option maxHeartbeats 1000000 in
theorem heldFileS_any (n : Nat) (a : Option Addr) (m cap b1 k : Nat) (w : World) (hl : n ≤ 4000000) (hk : 0 < k) (hk2 : k ≤ 4000000) (hv : w.ownsRow b1 84 2 (.slice a m cap) n (pcells (marksP k n))) :
 Calls Try.prog 59 #[.slice a m cap,.int .i64 k] w fun e w'=>e=.returned (.int .i64 ((k:Int)+2*(n:Int)))∧w.grownBy w' none:=by
 rcases own_cases2 hv with ⟨hv0,hn,hx⟩ | ⟨g,cap',hv0,hg1,hg2,hc,hf⟩
 · cases hv0
   subst hn
   go_enter Try.func59,Try.ntmps59
   go_wp2
   refine wp_loop_rounds 1 ?_
   rw[rounds_succ]
   go_wp2
   go_ret
   exact⟨by simp,World.grownBy.refl _ _⟩
 · cases hv0
   have hcc:∀ j,j<n→w.cell? ⟨g,j*2,none⟩=some (.string ⟨(markT (k+2*j)).toArray⟩)∧w.cell? ⟨g,j*2+1,none⟩=some (.string ⟨(markT (k+2*j+1)).toArray⟩):=fun j hj=>by
    have hj':j<(marksP k n).length:=by rw[marksP_length];exact hj
    have:=pcells_at (marksP k n) j hj'
    rw[marksP_at k n j hj'] at this
    exact⟨(hc _ (by omega)).trans this.1,(hc _ (by omega)).trans this.2⟩
   clear hc hf
   go_enter Try.func59,Try.ntmps59
   go_wp2
   go_loopw [1,5] (fun mm i wr=>∃ j:Nat,j≤n∧i=.int .i64 (j:Int)∧mm=.int .i64 ((k+2*j:Nat):Int)∧w.grownBy wr none) (fun _ i _=>n - (intOf i).toNat)
   case atStart=>exact⟨0,Nat.zero_le _,rfl,rfl,World.grownBy.refl _ _⟩
   case round =>
    obtain⟨j,hj,rfl,rfl,hgr⟩:=hrel
    by_cases hlt:j<n
    · have hj1:(j:Int)<(n:Int):=by omega
      have hj0:(0:Int)≤(j:Int):=by omega
      have c1:=(hgr.cell_far ⟨g,j*2,none⟩ hg2 (by simp)).trans (hcc j hlt).1
      have c2:=(hgr.cell_far ⟨g,j*2+1,none⟩ hg2 (by simp)).trans (hcc j hlt).2
      have hwlt:g<wr.heap.size:=Nat.lt_of_lt_of_le hg2 hgr.size
      have HG:Hid (w.grownBy wr none):=hgr
      have K1:=fun W=>markText_any (k+2*j) W (by omega) (by omega)
      have K2:=fun W=>markText_any (k+2*j+1) W (by omega) (by omega)
      rw[show ((k+2*j+1:Nat):Int)=((k+2*j:Nat):Int)+1 by omega] at K2
      obtain⟨q,hq⟩:∃ q,q=k+2*j:=⟨_,rfl⟩
      rw[←hq] at K1 K2 c1 c2 ⊢
      have HQ:Hid (q=k+2*j):=hq
      have hqs:(q:Int)≤100000000:=by omega
      have hq0:(0:Int)≤(q:Int):=by omega
      obtain⟨t1,ht1⟩:∃ t,t=markT q:=⟨_,rfl⟩
      obtain⟨t2,ht2⟩:∃ t,t=markT (q+1):=⟨_,rfl⟩
      rw[←ht1] at K1 c1
      rw[←ht2] at K2 c2
      clear hcc hgr hv hq ht1 ht2
      go_wp2_with fail
      go_region_held3 (fun w'=>w'.cell? ⟨g,j*2,none⟩=some (.string ⟨t1.toArray⟩))
       (first | assumption | go_keep)
       ((go_at_call 85;refine (K1 _).mono ?_;rintro e w1 ⟨rfl,hb1⟩;have d1:=(hb1.cell (p:=⟨g,j*2,none⟩) (by simp;omega)).trans c1))
      all_goals
       have hb1':Below wr.heap.size wr w1:=⟨hb1.os,hb1.tape,hb1.output,hb1.size,hb1.block⟩
       have e2:=(hb1'.cell (p:=⟨g,j*2+1,none⟩) hwlt).trans c2
       have hw1:g<w1.heap.size:=Nat.lt_of_lt_of_le hwlt hb1'.size
       have HG1:Hid (w.grownBy w1 none):=HG.out.trans (grown_of_below hb1' none)
       clear hb1
       go_wp2_with fail
       go_region_held3 (fun w'=>w'.cell? ⟨g,j*2+1,none⟩=some (.string ⟨t2.toArray⟩))
        (first | assumption | go_keep)
        ((go_at_call 85;refine (K2 _).mono ?_;rintro e w2 ⟨rfl,hb2⟩;have d2:=(hb2.cell (p:=⟨g,j*2+1,none⟩) (by simp;omega)).trans e2))
       all_goals
        have hb2':Below w1.heap.size w1 w2:=⟨hb2.os,hb2.tape,hb2.output,hb2.size,hb2.block⟩
        have HG2:Hid (w.grownBy w2 none):=HG1.out.trans (grown_of_below hb2' none)
        clear hb2
        go_wp2
        go_roundw
        case rel=>exact⟨j+1,by omega,by go_num,by have:=HQ.out;congr 1;omega,HG2.out⟩
        case measure=>simp[intOf];omega
    · have hjl:j=n:=by omega
      subst hjl
      go_wp2
      go_ret
      exact⟨by congr 2,hgr⟩
def keyAt (ps:List PairL) (j:Nat):List UInt8:=(ps.getD j ([],[])).1
def valAt (ps:List PairL) (j:Nat):List UInt8:=(ps.getD j ([],[])).2
def okAt (ps:List PairL) (j:Nat):Bool:=decide ((keyAt ps j).length≤12) && decide (1≤(valAt ps j).length) && decide ((valAt ps j).length≤60) && (decide (j=0) || Op.bytesLess (keyAt ps (j - 1)) (keyAt ps j))
def pairsOkL (ps:List PairL):Bool:=decide (ps.length≤60) && (List.range ps.length).all (okAt ps)
theorem pairsOk_big (ps:List PairL) (h:¬ ps.length≤60):pairsOkL ps=false:=by simp[pairsOkL,h]
theorem pairsOk_bad (ps:List PairL) (j:Nat) (h:j<ps.length) (hb:okAt ps j=false):pairsOkL ps=false:=by
 have:(List.range ps.length).all (okAt ps)=false:=by
  rw[List.all_eq_false]
  exact⟨j,List.mem_range.2 h,by simp[hb]⟩
 simp[pairsOkL,this]
theorem pairsOk_all (ps:List PairL) (h60:ps.length≤60) (h:∀ j,j<ps.length→okAt ps j=true):pairsOkL ps=true:=by
 simp only[pairsOkL,Bool.and_eq_true,decide_eq_true_eq,List.all_eq_true,List.mem_range]
 exact⟨h60,h⟩
theorem pairsOk_of (ps:List PairL) (h:pairsOkL ps=true):ps.length≤60∧∀ j,j<ps.length→okAt ps j=true:=by
 simpa only[pairsOkL,Bool.and_eq_true,decide_eq_true_eq,List.all_eq_true,List.mem_range] using h
theorem keyAt_lt (ps:List PairL) (j:Nat) (h:j<ps.length):keyAt ps j=ps[j].1:=by simp[keyAt,h]
theorem valAt_lt (ps:List PairL) (j:Nat) (h:j<ps.length):valAt ps j=ps[j].2:=by simp[valAt,h]
theorem below_dr {B:Nat} {w w':World} {q:Nat} (h:Below B w w'):Below B w (w'.drewN q):=⟨h.os,h.tape,h.output,h.size,h.block⟩
theorem ba_toList (l:List UInt8):(⟨l.toArray⟩:ByteArray).toList=l:=by simp
def nameOk (s:List UInt8):Bool:=decide (1≤s.length) && decide (s.length≤100)
def fileAt (fs:List PairL) (j:Nat):Bool:=nameOk (keyAt fs j) && (decide (j=0) || Op.bytesLess (keyAt fs (j - 1)) (keyAt fs j))
def dataN (fs:List PairL):Nat:=(fs.map fun p=>p.2.length).sum
def filesOk (fs:List PairL):Bool:=decide (fs.length≤60) && ((List.range fs.length).all (fileAt fs) && decide (dataN fs≤200000))
theorem filesOk_many (fs:List PairL) (h:¬ fs.length≤60):filesOk fs=false:=by simp[filesOk,h]
theorem filesOk_bad (fs:List PairL) (j:Nat) (hj:j<fs.length) (h:fileAt fs j=false):filesOk fs=false:=by
 have:(List.range fs.length).all (fileAt fs)=false:=by
  rw[List.all_eq_false]
  exact⟨j,List.mem_range.2 hj,by simp[h]⟩
 simp[filesOk,this]
theorem filesOk_end (fs:List PairL) (h:fs.length≤60) (ha:∀ j,j<fs.length→fileAt fs j=true):filesOk fs=decide (dataN fs≤200000):=by
 have:(List.range fs.length).all (fileAt fs)=true:=List.all_eq_true.2 fun j hj=>ha j (List.mem_range.1 hj)
 simp[filesOk,h,this]
theorem dataN_take (fs:List PairL) (j:Nat) (h:j<fs.length):dataN (fs.take (j+1))=dataN (fs.take j)+fs[j].2.length:=by
 rw[List.take_succ_eq_append_getElem h,dataN,dataN,List.map_append,List.sum_append];simp
theorem dataN_le (fs:List PairL) (M:Nat) (h:∀ p∈fs,p.2.length≤M):dataN fs≤fs.length*M:=by
 induction fs with
 | nil=>simp[dataN]
 | cons p r ih =>
   have:=ih fun q hq=>h q (List.mem_cons_of_mem _ hq)
   have h1:=h p (by simp)
   simp only[dataN,List.map_cons,List.sum_cons,List.length_cons] at this ⊢
   rw[Nat.add_mul]
   omega
structure DOpL where
 k:Int
 n:List UInt8
 t:List UInt8
 d:List UInt8
def formOk (o:DOpL):Bool:=decide (1≤o.k∧o.k≤3) && (nameOk o.n && (if o.k=2 then nameOk o.t && o.d.isEmpty else o.t.isEmpty && (decide (o.k=1) || o.d.isEmpty)))
def placeF (fs:List PairL) (n:List UInt8):Nat:=fs.findIdx (fun p=>p.1 == n)
theorem bl_total:∀ z x:List UInt8,Op.bytesLess z x=false→Op.bytesLess x z=true∨x=z
 | [],[],_=>.inr rfl
 | _ :: _,[],_=>.inl (by simp[Op.bytesLess])
 | [],_ :: _,h=>by simp[Op.bytesLess] at h
 | a :: z, b :: x, h => by
   simp only[Op.bytesLess,Bool.or_eq_false_iff,decide_eq_false_iff_not,Bool.and_eq_false_imp,beq_iff_eq] at h
   obtain⟨h1,h2⟩:=h
   simp only[Op.bytesLess,Bool.or_eq_true,decide_eq_true_eq,Bool.and_eq_true,beq_iff_eq,List.cons.injEq]
   by_cases e:a=b
   · subst e
     rcases bl_total z x (h2 rfl) with h | h
     · exact .inl (.inr ⟨rfl,h⟩)
     · exact .inr ⟨rfl,h⟩
   · have:b<a:=by
      rcases UInt8.lt_or_lt_of_ne e with h | h
      · exact absurd h h1
      · exact h
     exact .inl (.inl this)
theorem bl_asym:∀ z x:List UInt8,Op.bytesLess z x=true→Op.bytesLess x z=false∧(x == z)=false
 | [],[],h=>by simp[Op.bytesLess] at h
 | _ :: _,[],h=>by simp[Op.bytesLess] at h
 | [],_ :: _,_=>by simp[Op.bytesLess]
 | a :: z, b :: x, h => by
   simp only[Op.bytesLess,Bool.or_eq_true,decide_eq_true_eq,Bool.and_eq_true,beq_iff_eq] at h
   rcases h with h | ⟨rfl,h⟩
   · have h1:¬ b<a:=fun h'=>UInt8.lt_irrefl _ (UInt8.lt_trans h h')
     have h2:¬ b=a:=fun e=>by rw[e] at h;exact UInt8.lt_irrefl _ h
     simp[Op.bytesLess,h1,h2]
   · have:=bl_asym z x h
     simp only[beq_eq_false_iff_ne,ne_eq] at this
     simp[Op.bytesLess,this.1,this.2,UInt8.lt_irrefl]
def putStep (k v:List UInt8) (st:List PairL × Bool) (p:PairL):List PairL × Bool :=
 if (!st.2 && !(Op.bytesLess p.1 k))=true then (if p.1=k then st.1 ++ [(k,v)] else st.1 ++ [(k,v)] ++ [p],true) else (if p.1=k then st.1 else st.1 ++ [p],st.2)
def putFold (k v:List UInt8) (ps:List PairL):List PairL × Bool:=ps.foldl (putStep k v) ([],false)
def putL (ps:List PairL) (k v:List UInt8):List PairL:=if (putFold k v ps).2=true then (putFold k v ps).1 else (putFold k v ps).1 ++ [(k,v)]
theorem putFold_snoc (k v:List UInt8) (ps:List PairL) (j:Nat) (h:j<ps.length):putFold k v (ps.take (j+1))=putStep k v (putFold k v (ps.take j)) ps[j]:=by
 rw[take_snocP ps j h,putFold,List.foldl_append];rfl
theorem putFold_zero (k v:List UInt8) (ps:List PairL):putFold k v (ps.take 0)=([],false):=by simp[putFold]
theorem pstep_put (k v:List UInt8) (L:List PairL) (p:PairL) (h:Op.bytesLess p.1 k=false):putStep k v (L,false) p=(if p.1=k then L ++ [(k,v)] else L ++ [(k,v)] ++ [p],true):=by simp[putStep,h]
theorem pstep_less (k v:List UInt8) (L:List PairL) (d:Bool) (p:PairL) (h:d=true∨Op.bytesLess p.1 k=true):putStep k v (L,d) p=(if p.1=k then L else L ++ [p],d):=by
 rcases h with h | h <;> simp[putStep,h]
theorem fcells_snoc (L:List PairL) (a b:List UInt8):pcells (L ++ [(a,b)])=pcells L ++ [.string ⟨a.toArray⟩,.string ⟨b.toArray⟩]:=by rw[pcells_app];rfl
def setStep (k v:List UInt8) (st:List PairL × Bool) (p:PairL):List PairL × Bool :=
 if (!st.2 && !(Op.bytesLess p.1 k))=true then (if p.1=k then st.1 ++ [(k,v)] else st.1 ++ [(k,v)] ++ [p],true) else (if p.1=k then st.1 else st.1 ++ [p],st.2)
def setFold (k v:List UInt8) (ps:List PairL):List PairL × Bool:=ps.foldl (setStep k v) ([],decide (v=[]))
def setL (ps:List PairL) (k v:List UInt8):List PairL:=if (setFold k v ps).2=true then (setFold k v ps).1 else (setFold k v ps).1 ++ [(k,v)]
theorem setFold_snoc (k v:List UInt8) (ps:List PairL) (j:Nat) (h:j<ps.length):setFold k v (ps.take (j+1))=setStep k v (setFold k v (ps.take j)) ps[j]:=by
 rw[take_snocP ps j h,setFold,List.foldl_append];rfl
theorem setFold_zero (k v:List UInt8) (ps:List PairL):setFold k v (ps.take 0)=([],decide (v=[])):=by simp[setFold]
theorem step_put (k v:List UInt8) (L:List PairL) (p:PairL) (h:Op.bytesLess p.1 k=false):setStep k v (L,false) p=(if p.1=k then L ++ [(k,v)] else L ++ [(k,v)] ++ [p],true):=by simp[setStep,h]
theorem step_less (k v:List UInt8) (L:List PairL) (d:Bool) (p:PairL) (h:d=true∨Op.bytesLess p.1 k=true):setStep k v (L,d) p=(if p.1=k then L else L ++ [p],d):=by
 rcases h with h | h <;> simp[setStep,h]
theorem pcells_snoc (L:List PairL) (a b:List UInt8):pcells (L ++ [(a,b)])=pcells L ++ [.string ⟨a.toArray⟩,.string ⟨b.toArray⟩]:=by rw[pcells_app];rfl
theorem setP_mem {k v:List UInt8}:∀ (ps:List PairL) (L:List PairL) (d:Bool),(d=true→(ps.foldl (setStep k v) (L,d)).2=true)∧∀ x,x∈(ps.foldl (setStep k v) (L,d)).1↔x∈L∨(x∈ps∧x.1≠k)∨(d=false∧(ps.foldl (setStep k v) (L,d)).2=true∧x=(k,v))
 | [], L, d => ⟨fun h => h, fun x => by
     constructor
     · exact .inl
     · rintro (h | ⟨h,_⟩ | ⟨h1,h2,_⟩)
       · exact h
       · simp at h
       · simp only[List.foldl_nil] at h2;rw[h1] at h2;cases h2⟩
 | p :: ps, L, d => by
   rw[List.foldl_cons]
   cases hd:(!d && !(Op.bytesLess p.1 k)) with
   | true =>
     have hdf:d=false:=by cases d <;> simp_all
     have e:setStep k v (L,d) p=(if p.1=k then L ++ [(k,v)] else L ++ [(k,v)] ++ [p],true):=by unfold setStep;rw[if_pos hd]
     rw[e]
     obtain⟨h1,h2⟩:=setP_mem (k:=k) (v:=v) ps (if p.1=k then L ++ [(k,v)] else L ++ [(k,v)] ++ [p]) true
     have h1':=h1 rfl
     refine⟨fun _=>h1',fun x=>?_⟩
     rw[h2]
     constructor
     · rintro (h | h | ⟨h,_⟩)
       · split at h
         · rcases List.mem_append.1 h with h | h
           · exact .inl h
           · exact .inr (.inr ⟨hdf,h1',List.mem_singleton.1 h⟩)
         · rename_i hk
           rcases List.mem_append.1 h with h | h
           · rcases List.mem_append.1 h with h | h
             · exact .inl h
             · exact .inr (.inr ⟨hdf,h1',List.mem_singleton.1 h⟩)
           · rw[List.mem_singleton] at h
             exact .inr (.inl ⟨by rw[h];simp,by rw[h];exact hk⟩)
       · exact .inr (.inl ⟨List.mem_cons_of_mem _ h.1,h.2⟩)
       · cases h
     · rintro (h | ⟨h,hx⟩ | ⟨_,_,h⟩)
       · left;split <;> simp[h]
       · rcases List.mem_cons.1 h with h | h
         · left;rw[if_neg (by rw[←h];exact hx),h];simp
         · exact .inr (.inl ⟨h,hx⟩)
       · left;rw[h];split <;> simp
   | false =>
     have e:setStep k v (L,d) p=(if p.1=k then L else L ++ [p],d):=by unfold setStep;rw[if_neg (by rw[hd];simp)]
     rw[e]
     obtain⟨h1,h2⟩:=setP_mem (k:=k) (v:=v) ps (if p.1=k then L else L ++ [p]) d
     refine⟨h1,fun x=>?_⟩
     rw[h2]
     constructor
     · rintro (h | h | h)
       · split at h
         · exact .inl h
         · rename_i hk
           rcases List.mem_append.1 h with h | h
           · exact .inl h
           · rw[List.mem_singleton] at h
             exact .inr (.inl ⟨by rw[h];simp,by rw[h];exact hk⟩)
       · exact .inr (.inl ⟨List.mem_cons_of_mem _ h.1,h.2⟩)
       · exact .inr (.inr h)
     · rintro (h | ⟨h,hx⟩ | h)
       · left;split <;> simp[h]
       · rcases List.mem_cons.1 h with h | h
         · left;rw[if_neg (by rw[←h];exact hx),h];simp
         · exact .inr (.inl ⟨h,hx⟩)
       · exact .inr (.inr h)
theorem set_mem (ps:List PairL) (k v:List UInt8) (x:PairL):x∈setL ps k v↔(x∈ps∧x.1≠k)∨(v≠[]∧x=(k,v)):=by
 obtain⟨h1,h2⟩:=setP_mem (k:=k) (v:=v) ps [] (decide (v=[]))
 have h1':decide (v=[])=true→(setFold k v ps).2=true:=h1
 have h2':∀ x,x∈(setFold k v ps).1↔x∈[]∨(x∈ps∧x.1≠k)∨(decide (v=[])=false∧(setFold k v ps).2=true∧x=(k,v)):=h2
 unfold setL
 by_cases hv:v=[]
 · rw[if_pos (h1' (by simpa using hv)),h2']
   simp[hv]
 · have hd:decide (v=[])=false:=by simpa using hv
   split
   · rename_i ht
     rw[h2',hd,ht]
     simp[hv]
   · rename_i ht
     rw[List.mem_append,h2',List.mem_singleton]
     simp[hv,ht]
abbrev OpL:=List UInt8 × List UInt8 × Bool
def ocells:List OpL→List Value
 | []=>[]
 | p :: ps=>.string ⟨p.1.toArray⟩ :: .string ⟨p.2.1.toArray⟩ :: .bool p.2.2 :: ocells ps
theorem ocells_length (ps:List OpL):(ocells ps).length=ps.length*3:=by
 induction ps with
 | nil=>rfl
 | cons p ps ih=>simp[ocells,ih];omega
theorem ocells_app (a b:List OpL):ocells (a ++ b)=ocells a ++ ocells b:=by
 induction a with
 | nil=>rfl
 | cons p ps ih=>simp[ocells,ih]
theorem ocells_at (ps:List OpL) (j:Nat) (h:j<ps.length):(ocells ps)[j*3]? = some (.string ⟨ps[j].1.toArray⟩)∧(ocells ps)[j*3+1]? = some (.string ⟨ps[j].2.1.toArray⟩)∧(ocells ps)[j*3+2]? = some (.bool ps[j].2.2):=by
 induction ps generalizing j with
 | nil=>simp at h
 | cons p ps ih =>
   match j,h with
   | 0,_=>exact⟨rfl,rfl,rfl⟩
   | j + 1, h =>
     have:=ih j (by simpa using h)
     have e:(j+1)*3=j*3+1+1+1:=by omega
     rw[e]
     simpa [ocells] using this
def IsOps (w:World) (a:Option Addr) (ps:List OpL):Prop :=
 ps=[]∨∃ b off,a=some ⟨b,off,none⟩∧∀ j (h:j<ps.length),w.cell? ⟨b,off+j*3,none⟩=some (.string ⟨ps[j].1.toArray⟩)∧w.cell? ⟨b,off+j*3+1,none⟩=some (.string ⟨ps[j].2.1.toArray⟩)∧w.cell? ⟨b,off+j*3+2,none⟩=some (.bool ps[j].2.2)
theorem IsOps.later {w w':World} {a:Option Addr} {ps:List OpL} (h:IsOps w a ps) (hb:Below w.heap.size w w'):IsOps w' a ps:=by
 rcases h with h | ⟨b,off,h1,h2⟩
 · exact .inl h
 · exact .inr ⟨b,off,h1,fun j h=>⟨(hb.cell (p:=⟨b,off+j*3,none⟩) (World.block_lt_of_cell? w _ (h2 j h).1)).trans (h2 j h).1,(hb.cell (p:=⟨b,off+j*3+1,none⟩) (World.block_lt_of_cell? w _ (h2 j h).2.1)).trans (h2 j h).2.1,(hb.cell (p:=⟨b,off+j*3+2,none⟩) (World.block_lt_of_cell? w _ (h2 j h).2.2)).trans (h2 j h).2.2⟩⟩
theorem isOps_own {w:World} {base e n:Nat} {a:Option Addr} {m cap:Nat} {ps:List OpL} (h:w.ownsRow base e 3 (.slice a m cap) n (ocells ps)):m=ps.length∧n=ps.length∧IsOps w a ps:=by
 have hl:ps.length=n:=by have:=h.1;rw[ocells_length] at this;omega
 rcases h.2 with ⟨h',h0⟩ | ⟨g,cap',cur,h',_⟩
 · cases h'
   exact⟨by omega,by omega,.inl (List.length_eq_zero_iff.1 (by omega))⟩
 · cases h'
   exact⟨by omega,by omega,.inr ⟨g,0,rfl,fun j hj=>by
    rw[Nat.zero_add,h.cellAt (j*3) (by omega),h.cellAt (j*3+1) (by omega),h.cellAt (j*3+2) (by omega)]
    exact ocells_at ps j hj⟩⟩
theorem own_cases3 {w:World} {base e n:Nat} {v:Value} {xs:List Value} (h:w.ownsRow base e 3 v n xs) :
 (v=.slice none 0 0∧n=0∧xs=[])∨∃ g cap,v=.slice (some ⟨g,0,none⟩) n cap∧base≤g∧g<w.heap.size∧(∀ j,j<n*3→w.cell? ⟨g,j,none⟩=xs[j]?)∧∀ j,w.frozen? ⟨g,j,none⟩=false:=by
 rcases h.2 with ⟨rfl,hn⟩ | ⟨g,cap,cur,rfl,hb,hg,_⟩
 · exact .inl ⟨rfl,hn,List.length_eq_zero_iff.1 (by rw[h.1,hn])⟩
 · exact .inr ⟨g,cap,rfl,hb,lt_of_block hg,fun j hj=>h.cellAt j hj,fun j=>h.frozenAt j⟩
theorem kept3 {w w':World} {b e n:Nat} {v:Value} {xs:List Value} (h:w.ownsRow b e 3 v n xs) (hb:Below w.heap.size w w'):w'.ownsRow b e 3 v n xs :=
 h.kept (row:=none) ⟨hb.os,hb.tape,hb.output,hb.size,fun k hk _=>hb.block k hk⟩ (by cases v.ownBlock with | none=>exact .inl rfl | some k=>exact .inr (by simp))
def noOps:Nat→List Value
 | 0=>[]
 | n+1=>.string ⟨#[]⟩ :: .string ⟨#[]⟩ :: .bool false :: noOps n
theorem noOps_length (n:Nat):(noOps n).length=n*3:=by
 induction n with
 | zero=>rfl
 | succ n ih=>simp[noOps,ih];omega
theorem noOps_at (n j:Nat) (h:j<n):(noOps n)[j*3]? = some (.string ⟨#[]⟩)∧(noOps n)[j*3+1]? = some (.string ⟨#[]⟩)∧(noOps n)[j*3+2]? = some (.bool false):=by
 induction n generalizing j with
 | zero=>omega
 | succ n ih =>
   match j,h with
   | 0,_=>exact⟨rfl,rfl,rfl⟩
   | j + 1, h =>
     have:=ih j (by omega)
     have e:(j+1)*3=j*3+1+1+1:=by omega
     rw[e]
     simpa [noOps] using this
def laidO (ps:List OpL) (j:Nat):List Value:=ocells (ps.take j) ++ noOps (ps.length - j)
theorem laidO_length (ps:List OpL) (j:Nat) (h:j≤ps.length):(laidO ps j).length=ps.length*3:=by
 simp[laidO,ocells_length,noOps_length,Nat.min_eq_left h]
 try omega
theorem laidO_all (ps:List OpL):laidO ps ps.length=ocells ps:=by simp[laidO,noOps]
theorem laidO_zero (ps:List OpL):laidO ps 0=noOps ps.length:=by simp[laidO,ocells]
theorem take_snocO (ps:List OpL) (j:Nat) (h:j<ps.length):ps.take (j+1)=ps.take j ++ [ps[j]]:=by rw[List.take_succ_eq_append_getElem h]
theorem laidO_step (ps:List OpL) (j:Nat) (h:j<ps.length):(((laidO ps j).set (j*3) (.string ⟨ps[j].1.toArray⟩)).set (j*3+1) (.string ⟨ps[j].2.1.toArray⟩)).set (j*3+2) (.bool ps[j].2.2)=laidO ps (j+1):=by
 have hl:(ocells (ps.take j)).length=j*3:=by rw[ocells_length,List.length_take];omega
 obtain⟨n,hn⟩:∃ n,n=ps.length - (j+1):=⟨_,rfl⟩
 have e:ps.length - j=n+1:=by omega
 simp only[laidO,take_snocO ps j h,ocells_app,e,←hn,noOps]
 rw[List.set_append_right _ _ (by omega),hl,Nat.sub_self,List.set_append_right _ _ (by omega),hl,List.set_append_right _ _ (by omega),hl]
 simp[ocells]
def marksO (k n:Nat):List OpL:=(List.range n).map fun i=>(markT (k+3*i),markT (k+3*i+1),decide ((k+3*i+2) % 3=0))
theorem marksO_length (k n:Nat):(marksO k n).length=n:=by simp[marksO]
theorem marksO_at (k n j:Nat) (h:j<(marksO k n).length):(marksO k n)[j]=(markT (k+3*j),markT (k+3*j+1),decide ((k+3*j+2) % 3=0)):=by simp[marksO]
theorem marksO_snoc (k j:Nat):marksO k (j+1)=marksO k j ++ [(markT (k+3*j),markT (k+3*j+1),decide ((k+3*j+2) % 3=0))]:=by simp[marksO,List.range_succ]
def markedO (k j:Nat) (ps:List OpL):List Value:=ocells (marksO k j) ++ ocells (ps.drop j)
theorem markedO_zero (k:Nat) (ps:List OpL):markedO k 0 ps=ocells ps:=by simp[markedO,marksO,ocells]
theorem markedO_all (k:Nat) (ps:List OpL):markedO k ps.length ps=ocells (marksO k ps.length):=by simp[markedO,ocells]
theorem markedO_length (k j:Nat) (ps:List OpL) (h:j≤ps.length):(markedO k j ps).length=ps.length*3:=by simp[markedO,ocells_length,marksO_length];omega
theorem markedO_step (k j:Nat) (ps:List OpL) (h:j<ps.length):(((markedO k j ps).set (j*3) (.string ⟨(markT (k+3*j)).toArray⟩)).set (j*3+1) (.string ⟨(markT (k+3*j+1)).toArray⟩)).set (j*3+2) (.bool (decide ((k+3*j+2) % 3=0)))=markedO k (j+1) ps:=by
 have hl:(ocells (marksO k j)).length=j*3:=by rw[ocells_length,marksO_length]
 have e:ps.drop j=ps[j] :: ps.drop (j+1):=by rw[List.drop_eq_getElem_cons h]
 simp only[markedO,marksO_snoc,ocells_app,e,ocells]
 rw[List.set_append_right _ _ (by omega),hl,Nat.sub_self,List.set_append_right _ _ (by omega),hl,List.set_append_right _ _ (by omega),hl]
 simp
theorem made_ops (n:Nat):(madeCells (Value.agg #[.string ⟨#[]⟩,.string ⟨#[]⟩,.bool false]).cells (n*3)).toList=noOps n:=by
 apply List.ext_getElem?
 intro j
 by_cases hj:j<n*3
 · obtain⟨q,r,hr,rfl⟩:∃ q r,r<3∧j=q*3+r:=⟨j / 3,j % 3,by omega,by omega⟩
   have hq:q<n:=by omega
   have ha:=noOps_at n q hq
   match r,hr with
   | 0,_=>rw[Nat.add_zero] at hj ⊢;rw[ha.1];simp[madeCells,hj,Value.cells]
   | 1,_=>rw[ha.2.1];simp[madeCells,hj,Value.cells,Nat.add_mod]
   | 2,_=>rw[ha.2.2];simp[madeCells,hj,Value.cells,Nat.add_mod]
 · have h1:(noOps n)[j]? = none:=List.getElem?_eq_none (by rw[noOps_length];omega)
   rw[h1]
   simp[madeCells,hj]
def sizeO (ps:List OpL):Nat:=(ps.map fun p=>p.1.length+p.2.1.length).sum
theorem sizeO_snoc (ps:List OpL) (j:Nat) (h:j<ps.length):sizeO (ps.take (j+1))=sizeO (ps.take j)+(ps[j].1.length+ps[j].2.1.length):=by
 rw[take_snocO ps j h];simp only[sizeO,List.map_append,List.sum_append,List.map_cons,List.map_nil,List.sum_cons,List.sum_nil,Nat.add_zero]
theorem sizeO_le (ps:List OpL) (j:Nat) (h:j<ps.length):ps[j].1.length+ps[j].2.1.length≤sizeO ps:=by
 have h1:sizeO ps=sizeO (ps.take (j+1))+sizeO (ps.drop (j+1)):=by
  conv=>lhs;rw[←List.take_append_drop (j+1) ps]
  simp only[sizeO,List.map_append,List.sum_append]
 rw[h1,sizeO_snoc ps j h];omega
theorem sizesO_le (ps:List OpL) (h:ps.length+sizeO ps≤1048576):∀ p∈ps,p.1.length≤1048576∧p.2.1.length≤1048576:=by
 intro p hp
 obtain⟨j,hj,rfl⟩:=List.getElem_of_mem hp
 have:=sizeO_le ps j hj
 exact⟨by omega,by omega⟩
def opOk (p:OpL):Bool:=decide (p.1.length≤12) && (if p.2.2 then p.2.1.isEmpty else (!p.2.1.isEmpty && decide (p.2.1.length≤60)))
def numOk (n:Int):Bool:=decide (1≤n∧n≤1000000000000)
def batchOk (c n:Int) (ps:List OpL):Bool:=numOk c && numOk n && decide (1≤ps.length) && decide (ps.length≤12) && ps.all opOk
theorem batchOk_bad (c n:Int) (ps:List OpL) (j:Nat) (h:j<ps.length) (hb:opOk ps[j]=false):batchOk c n ps=false:=by
 have:ps.all opOk=false:=by
  rw[List.all_eq_false]
  exact⟨ps[j],List.getElem_mem _,by simp[hb]⟩
 simp[batchOk,this]
theorem batchOk_all (c n:Int) (ps:List OpL) (h1:numOk c=true) (h2:numOk n=true) (h3:1≤ps.length) (h4:ps.length≤12) (h:∀ j (hj:j<ps.length),opOk ps[j]=true):batchOk c n ps=true:=by
 simp only[batchOk,Bool.and_eq_true,decide_eq_true_eq,List.all_eq_true]
 refine⟨⟨⟨⟨h1,h2⟩,h3⟩,h4⟩,fun p hp=>?_⟩
 obtain⟨j,hj,rfl⟩:=List.getElem_of_mem hp
 exact h j hj
def applyL (ps:List PairL) (os:List OpL):List PairL:=os.foldl (fun l o=>setL l o.1 o.2.1) ps
def applyOk (ps:List PairL) (c n:Int) (os:List OpL):Bool:=pairsOkL ps && (batchOk c n os && pairsOkL (applyL ps os))
def applyR (ps:List PairL) (c n:Int) (os:List OpL):List PairL:=if applyOk ps c n os=true then applyL ps os else []
theorem applyL_zero (ps:List PairL) (os:List OpL):applyL ps (os.take 0)=ps:=by simp[applyL]
theorem applyL_snoc (ps:List PairL) (os:List OpL) (j:Nat) (h:j<os.length):applyL ps (os.take (j+1))=setL (applyL ps (os.take j)) os[j].1 os[j].2.1:=by
 rw[List.take_succ_eq_append_getElem h,applyL,List.foldl_append];rfl
theorem applyL_app (ps:List PairL) (os os':List OpL):applyL ps (os ++ os')=applyL (applyL ps os) os':=by rw[applyL,List.foldl_append];rfl
theorem bless_iff:∀ (x y:List UInt8),Op.bytesLess x y=true↔x<y
 | _,[]=>by simp[Op.bytesLess]
 | [],_ :: _=>by simp[Op.bytesLess]
 | a :: ra, b :: rb => by
   rw[List.cons_lt_cons_iff]
   simp only[Op.bytesLess,Bool.or_eq_true,decide_eq_true_eq,Bool.and_eq_true,beq_iff_eq]
   constructor
   · rintro (h | ⟨h1,h2⟩)
     · exact .inl h
     · exact .inr ⟨h1,(bless_iff ra rb).1 h2⟩
   · rintro (h | ⟨h1,h2⟩)
     · exact .inl h
     · exact .inr ⟨h1,(bless_iff ra rb).2 h2⟩
theorem ltK_tri (a b:List UInt8):a<b∨a=b∨b<a:=by
 rcases Decidable.em (a<b) with h | h
 · exact .inl h
 · rcases Decidable.em (b<a) with h' | h'
   · exact .inr (.inr h')
   · exact .inr (.inl (List.le_antisymm (List.not_lt.1 h') (List.not_lt.1 h)))
def Rise (ps:List PairL):Prop:=ps.Pairwise (fun x y=>x.1<y.1)
theorem rise_ok {l:List PairL} (h:pairsOkL l=true):Rise l:=by
 have ho:=(pairsOk_of l h).2
 have hs:∀ i (hi:i+1<l.length),l[i].1<l[i+1].1:=fun i hi=>by
  have:=ho (i+1) hi
  simp only[okAt,Bool.and_eq_true,Bool.or_eq_true,decide_eq_true_eq] at this
  rcases this.2 with h0 | h0
  · omega
  · have h1:Op.bytesLess (keyAt l i) (keyAt l (i+1))=true:=by simpa using h0
    rw[keyAt_lt l i (by omega),keyAt_lt l (i+1) hi,bless_iff] at h1
    exact h1
 have hlt:∀ (k i:Nat) (hi:i+1+k<l.length),(l[i]'(by omega)).1<l[i+1+k].1:=by
  intro k
  induction k with
  | zero=>intro i hi;exact hs i hi
  | succ k ih=>intro i hi;exact List.lt_trans (ih i (by omega)) (hs (i+1+k) hi)
 refine List.pairwise_iff_getElem.2 fun i j hi hj hij=>?_
 have:=hlt (j - i - 1) i (by omega)
 have e:i+1+(j - i - 1)=j:=by omega
 simp only[e] at this
 exact this
def insK (k v:List UInt8):List PairL:=if v=[] then [] else [(k,v)]
def loK (k:List UInt8) (ps:List PairL):List PairL:=ps.filter (fun x=>decide (x.1<k))
def hiK (k:List UInt8) (ps:List PairL):List PairL:=ps.filter (fun x=>decide (k<x.1))
theorem fold_true {k v:List UInt8}:∀ (ps L:List PairL),ps.foldl (setStep k v) (L,true)=(L ++ ps.filter (fun x=>decide (x.1≠k)),true)
 | [],L=>by simp
 | p :: ps, L => by
   rw[List.foldl_cons,step_less k v L true p (.inl rfl),fold_true]
   by_cases e:p.1=k
   · rw[if_pos e,List.filter_cons_of_neg (by simpa using e)]
   · rw[if_neg e,List.filter_cons_of_pos (by simpa using e)];simp
theorem filter_ne {k:List UInt8} {ps:List PairL} (h:∀ x∈ps,¬ x.1<k):ps.filter (fun x=>decide (x.1≠k))=hiK k ps:=by
 unfold hiK
 refine List.filter_congr fun x hx=>?_
 have:=h x hx
 rcases ltK_tri x.1 k with h1 | h1 | h1
 · exact absurd h1 this
 · simp[h1,List.lt_irrefl]
 · have:x.1≠k:=fun e=>by rw[e] at h1;exact List.lt_irrefl _ h1
   simp[h1,this]
theorem lo_none {k:List UInt8} {ps:List PairL} (h:∀ x∈ps,¬ x.1<k):loK k ps=[]:=by
 unfold loK
 rw[List.filter_eq_nil_iff]
 intro x hx
 simpa using h x hx
theorem rise_ge {k:List UInt8} {p:PairL} {ps:List PairL} (h:Rise (p :: ps)) (hk:¬ p.1<k):∀ x∈p :: ps,¬ x.1<k:=fun x hx h'=>by
 rcases List.mem_cons.1 hx with e | e
 · rw[e] at h';exact hk h'
 · exact hk (List.lt_trans ((List.pairwise_cons.1 h).1 x e) h')
theorem fold_lohi {k v:List UInt8}:∀ (ps L:List PairL),Rise ps→(if (ps.foldl (setStep k v) (L,false)).2=true then (ps.foldl (setStep k v) (L,false)).1 else (ps.foldl (setStep k v) (L,false)).1 ++ [(k,v)])=L ++ loK k ps ++ [(k,v)] ++ hiK k ps
 | [],L,_=>by simp[loK,hiK]
 | p :: ps, L, h => by
   rw[List.foldl_cons]
   by_cases hk:p.1<k
   · have hne:p.1≠k:=fun e=>by rw[e] at hk;exact List.lt_irrefl _ hk
     have hng:¬ k<p.1:=fun e=>List.lt_irrefl _ (List.lt_trans hk e)
     rw[step_less k v L false p (.inr ((bless_iff _ _).2 hk)),if_neg hne,fold_lohi ps (L ++ [p]) (List.pairwise_cons.1 h).2]
     simp[loK,hiK,hk,hng]
   · have hb:Op.bytesLess p.1 k=false:=by
      cases hq:Op.bytesLess p.1 k with
      | false=>rfl
      | true=>exact absurd ((bless_iff _ _).1 hq) hk
     have hge:=rise_ge h hk
     rw[step_put k v L p hb,fold_true,if_pos rfl,lo_none hge]
     show (if p.1=k then L ++ [(k,v)] else L ++ [(k,v)] ++ [p]) ++ _=_
     rw[filter_ne (fun x hx=>hge x (List.mem_cons_of_mem _ hx))]
     by_cases e:p.1=k
     · rw[if_pos e];simp[hiK,e,List.lt_irrefl]
     · have hg:k<p.1:=by rcases ltK_tri p.1 k with h1 | h1 | h1;exact absurd h1 hk;exact absurd h1 e;exact h1
       rw[if_neg e];simp[hiK,hg]
theorem ne_lohi {k:List UInt8}:∀ ps:List PairL,Rise ps→ps.filter (fun x=>decide (x.1≠k))=loK k ps ++ hiK k ps
 | [],_=>by simp[loK,hiK]
 | p :: ps, h => by
   by_cases hk:p.1<k
   · have hne:p.1≠k:=fun e=>by rw[e] at hk;exact List.lt_irrefl _ hk
     have hng:¬ k<p.1:=fun e=>List.lt_irrefl _ (List.lt_trans hk e)
     rw[List.filter_cons_of_pos (by simpa using hne),ne_lohi ps (List.pairwise_cons.1 h).2]
     simp[loK,hiK,hk,hng]
   · have hge:=rise_ge h hk
     rw[filter_ne hge,lo_none hge];rfl
theorem set_lohi (ps:List PairL) (k v:List UInt8) (h:Rise ps):setL ps k v=loK k ps ++ insK k v ++ hiK k ps:=by
 unfold setL setFold insK
 by_cases hv:v=[]
 · rw[decide_eq_true hv,fold_true,if_pos rfl,if_pos hv,ne_lohi ps h];simp
 · rw[decide_eq_false hv,fold_lohi ps [] h,if_neg hv];simp
theorem mem_lo {k:List UInt8} {ps:List PairL} {x:PairL} (h:x∈loK k ps):x∈ps∧x.1<k:=by simpa [loK] using h
theorem mem_hi {k:List UInt8} {ps:List PairL} {x:PairL} (h:x∈hiK k ps):x∈ps∧k<x.1:=by simpa [hiK] using h
theorem mem_ins {k v:List UInt8} {x:PairL} (h:x∈insK k v):x.1=k:=by
 unfold insK at h
 split at h
 · simp at h
 · rw[List.mem_singleton.1 h]
theorem rise_set (ps:List PairL) (k v:List UInt8) (h:Rise ps):Rise (setL ps k v):=by
 rw[set_lohi ps k v h]
 unfold Rise
 rw[List.pairwise_append,List.pairwise_append]
 refine⟨⟨h.sublist List.filter_sublist,?_,fun a ha b hb=>by rw[mem_ins hb];exact (mem_lo ha).2⟩,h.sublist List.filter_sublist,fun a ha b hb=>?_⟩
 · unfold insK
   split
   · exact List.Pairwise.nil
   · exact List.pairwise_singleton _ _
 · rcases List.mem_append.1 ha with ha | ha
   · exact List.lt_trans (mem_lo ha).2 (mem_hi hb).2
   · rw[mem_ins ha];exact (mem_hi hb).2
theorem rise_apply (os:List OpL):∀ ps:List PairL,Rise ps→Rise (applyL ps os):=by
 induction os with
 | nil=>exact fun ps h=>h
 | cons o r ih=>exact fun ps h=>ih _ (rise_set ps _ _ h)
def inK (k:List UInt8) (ps:List PairL):Bool:=ps.any (fun x=>decide (x.1=k))
theorem inK_iff (k:List UInt8) (ps:List PairL):inK k ps=true↔∃ u,(k,u)∈ps:=by
 unfold inK
 rw[List.any_eq_true]
 exact⟨fun ⟨x,hx,e⟩=>⟨x.2,by rw[←of_decide_eq_true e];exact hx⟩,fun ⟨u,hu⟩=>⟨_,hu,by simp⟩⟩
theorem inK_cons (k:List UInt8) (p:PairL) (ps:List PairL):inK k (p :: ps)=(decide (p.1=k) || inK k ps):=rfl
theorem lohi_len {k : List UInt8} : ∀ ps : List PairL, Rise ps → (loK k ps).length + (hiK k ps).length + (if inK k ps = true then 1 else 0) = ps.length
 | [],_=>by simp[loK,hiK,inK]
 | p :: ps, h => by
   have h2:=(List.pairwise_cons.1 h).2
   have ih:=lohi_len (k:=k) ps h2
   rcases ltK_tri p.1 k with hk | hk | hk
   · have hng:¬ k<p.1:=fun e=>List.lt_irrefl _ (List.lt_trans hk e)
     have hne:p.1≠k:=fun e=>by rw[e] at hk;exact List.lt_irrefl _ hk
     have e1:loK k (p :: ps)=p :: loK k ps:=List.filter_cons_of_pos (by simpa using hk)
     have e2:hiK k (p :: ps)=hiK k ps:=List.filter_cons_of_neg (by simpa using hng)
     rw[e1,e2,inK_cons,decide_eq_false hne,Bool.false_or,List.length_cons,List.length_cons]
     omega
   · have hno:inK k ps=false:=by
      cases hq:inK k ps with
      | false=>rfl
      | true =>
        obtain⟨u,hu⟩:=(inK_iff k ps).1 hq
        have:=(List.pairwise_cons.1 h).1 _ hu
        rw[hk] at this;exact absurd this (List.lt_irrefl _)
     have e1:loK k (p :: ps)=loK k ps:=List.filter_cons_of_neg (by simp[hk,List.lt_irrefl])
     have e2:hiK k (p :: ps)=hiK k ps:=List.filter_cons_of_neg (by simp[hk,List.lt_irrefl])
     rw[hno] at ih
     rw[e1,e2,inK_cons,decide_eq_true hk,Bool.true_or,List.length_cons]
     simp only[Bool.false_eq_true,if_false,if_true] at ih ⊢
     omega
   · have hng:¬ p.1<k:=fun e=>List.lt_irrefl _ (List.lt_trans hk e)
     have hne:p.1≠k:=fun e=>by rw[e] at hk;exact List.lt_irrefl _ hk
     have e1:loK k (p :: ps)=loK k ps:=List.filter_cons_of_neg (by simpa using hng)
     have e2:hiK k (p :: ps)=p :: hiK k ps:=List.filter_cons_of_pos (by simpa using hk)
     rw[e1,e2,inK_cons,decide_eq_false hne,Bool.false_or,List.length_cons,List.length_cons]
     omega
theorem set_lenK (ps:List PairL) (k v:List UInt8) (h:Rise ps):(setL ps k v).length+(if inK k ps=true then 1 else 0)=ps.length+(if v=[] then 0 else 1):=by
 have:=lohi_len (k:=k) ps h
 rw[set_lohi ps k v h,List.length_append,List.length_append]
 unfold insK
 split
 · simp;omega
 · simp;omega
theorem set_len1 (ps:List PairL) (k v:List UInt8) (h:Rise ps):(setL ps k v).length≤ps.length+1:=by
 have:=set_lenK ps k v h
 split at this <;> split at this <;> omega
theorem apply_len (os:List OpL):∀ ps:List PairL,Rise ps→(applyL ps os).length≤ps.length+os.length:=by
 induction os with
 | nil=>intro ps _;simp[applyL]
 | cons o r ih =>
   intro ps h
   have h1:=ih _ (rise_set ps o.1 o.2.1 h)
   have h2:=set_len1 ps o.1 o.2.1 h
   simp only[applyL,List.foldl_cons,List.length_cons] at h1 ⊢
   omega
theorem apply_small (os:List OpL):∀ ps:List PairL,(∀ p∈ps,p.1.length≤1048576∧p.2.length≤1048576)→(∀ o∈os,o.1.length≤1048576∧o.2.1.length≤1048576)→∀ p∈applyL ps os,p.1.length≤1048576∧p.2.length≤1048576:=by
 induction os with
 | nil=>exact fun ps h _=>h
 | cons o r ih =>
   intro ps h ho
   refine ih _ (fun p hp=>?_) (fun x hx=>ho x (List.mem_cons_of_mem _ hx))
   rcases (set_mem ps o.1 o.2.1 p).1 hp with ⟨h1,_⟩ | ⟨_,h1⟩
   · exact h p h1
   · rw[h1];exact ho o List.mem_cons_self
theorem applyR_no {ps:List PairL} {c n:Int} {os:List OpL} (h:applyOk ps c n os=false):applyR ps c n os=[]:=by rw[applyR,h];rfl
theorem applyR_yes {ps:List PairL} {c n:Int} {os:List OpL} (h:applyOk ps c n os=true):applyR ps c n os=applyL ps os:=if_pos h
def dcells:List DOpL→List Value
 | []=>[]
 | p :: ps=>.int .i64 p.k :: .string ⟨p.n.toArray⟩ :: .string ⟨p.t.toArray⟩ :: .string ⟨p.d.toArray⟩ :: dcells ps
theorem dcells_length (ps:List DOpL):(dcells ps).length=ps.length*4:=by
 induction ps with
 | nil=>rfl
 | cons p ps ih=>simp[dcells,ih];omega
theorem dcells_app (a b:List DOpL):dcells (a ++ b)=dcells a ++ dcells b:=by
 induction a with
 | nil=>rfl
 | cons p ps ih=>simp[dcells,ih]
theorem dcells_at (ps:List DOpL) (j:Nat) (h:j<ps.length):(dcells ps)[j*4]? = some (.int .i64 ps[j].k)∧(dcells ps)[j*4+1]? = some (.string ⟨ps[j].n.toArray⟩)∧(dcells ps)[j*4+2]? = some (.string ⟨ps[j].t.toArray⟩)∧(dcells ps)[j*4+3]? = some (.string ⟨ps[j].d.toArray⟩):=by
 induction ps generalizing j with
 | nil=>simp at h
 | cons p ps ih =>
   match j,h with
   | 0,_=>exact⟨rfl,rfl,rfl,rfl⟩
   | j + 1, h =>
     have:=ih j (by simpa using h)
     have e:(j+1)*4=j*4+1+1+1+1:=by omega
     rw[e]
     simpa [dcells] using this
def IsDOps (w:World) (a:Option Addr) (ps:List DOpL):Prop :=
 ps=[]∨∃ b off,a=some ⟨b,off,none⟩∧∀ j (h:j<ps.length),w.cell? ⟨b,off+j*4,none⟩=some (.int .i64 ps[j].k)∧w.cell? ⟨b,off+j*4+1,none⟩=some (.string ⟨ps[j].n.toArray⟩)∧w.cell? ⟨b,off+j*4+2,none⟩=some (.string ⟨ps[j].t.toArray⟩)∧w.cell? ⟨b,off+j*4+3,none⟩=some (.string ⟨ps[j].d.toArray⟩)
theorem IsDOps.later {w w':World} {a:Option Addr} {ps:List DOpL} (h:IsDOps w a ps) (hb:Below w.heap.size w w'):IsDOps w' a ps:=by
 rcases h with h | ⟨b,off,h1,h2⟩
 · exact .inl h
 · exact .inr ⟨b,off,h1,fun j h=>⟨(hb.cell (p:=⟨b,off+j*4,none⟩) (World.block_lt_of_cell? w _ (h2 j h).1)).trans (h2 j h).1,(hb.cell (p:=⟨b,off+j*4+1,none⟩) (World.block_lt_of_cell? w _ (h2 j h).2.1)).trans (h2 j h).2.1,(hb.cell (p:=⟨b,off+j*4+2,none⟩) (World.block_lt_of_cell? w _ (h2 j h).2.2.1)).trans (h2 j h).2.2.1,(hb.cell (p:=⟨b,off+j*4+3,none⟩) (World.block_lt_of_cell? w _ (h2 j h).2.2.2)).trans (h2 j h).2.2.2⟩⟩
theorem isDOps_own {w:World} {base e n:Nat} {a:Option Addr} {m cap:Nat} {ps:List DOpL} (h:w.ownsRow base e 4 (.slice a m cap) n (dcells ps)):m=ps.length∧n=ps.length∧IsDOps w a ps:=by
 have hl:ps.length=n:=by have:=h.1;rw[dcells_length] at this;omega
 rcases h.2 with ⟨h',h0⟩ | ⟨g,cap',cur,h',_⟩
 · cases h'
   exact⟨by omega,by omega,.inl (List.length_eq_zero_iff.1 (by omega))⟩
 · cases h'
   exact⟨by omega,by omega,.inr ⟨g,0,rfl,fun j hj=>by
    rw[Nat.zero_add,h.cellAt (j*4) (by omega),h.cellAt (j*4+1) (by omega),h.cellAt (j*4+2) (by omega),h.cellAt (j*4+3) (by omega)]
    exact dcells_at ps j hj⟩⟩
theorem own_cases4 {w:World} {base e n:Nat} {v:Value} {xs:List Value} (h:w.ownsRow base e 4 v n xs) :
 (v=.slice none 0 0∧n=0∧xs=[])∨∃ g cap,v=.slice (some ⟨g,0,none⟩) n cap∧base≤g∧g<w.heap.size∧(∀ j,j<n*4→w.cell? ⟨g,j,none⟩=xs[j]?)∧∀ j,w.frozen? ⟨g,j,none⟩=false:=by
 rcases h.2 with ⟨rfl,hn⟩ | ⟨g,cap,cur,rfl,hb,hg,_⟩
 · exact .inl ⟨rfl,hn,List.length_eq_zero_iff.1 (by rw[h.1,hn])⟩
 · exact .inr ⟨g,cap,rfl,hb,lt_of_block hg,fun j hj=>h.cellAt j hj,fun j=>h.frozenAt j⟩
theorem kept4 {w w':World} {b e n:Nat} {v:Value} {xs:List Value} (h:w.ownsRow b e 4 v n xs) (hb:Below w.heap.size w w'):w'.ownsRow b e 4 v n xs :=
 h.kept (row:=none) ⟨hb.os,hb.tape,hb.output,hb.size,fun k hk _=>hb.block k hk⟩ (by cases v.ownBlock with | none=>exact .inl rfl | some k=>exact .inr (by simp))
def noDOps:Nat→List Value
 | 0=>[]
 | n+1=>.int .i64 0 :: .string ⟨#[]⟩ :: .string ⟨#[]⟩ :: .string ⟨#[]⟩ :: noDOps n
theorem noDOps_length (n:Nat):(noDOps n).length=n*4:=by
 induction n with
 | zero=>rfl
 | succ n ih=>simp[noDOps,ih];omega
theorem noDOps_at (n j:Nat) (h:j<n):(noDOps n)[j*4]? = some (.int .i64 0)∧(noDOps n)[j*4+1]? = some (.string ⟨#[]⟩)∧(noDOps n)[j*4+2]? = some (.string ⟨#[]⟩)∧(noDOps n)[j*4+3]? = some (.string ⟨#[]⟩):=by
 induction n generalizing j with
 | zero=>omega
 | succ n ih =>
   match j,h with
   | 0,_=>exact⟨rfl,rfl,rfl,rfl⟩
   | j + 1, h =>
     have:=ih j (by omega)
     have e:(j+1)*4=j*4+1+1+1+1:=by omega
     rw[e]
     simpa [noDOps] using this
def laidD (ps:List DOpL) (j:Nat):List Value:=dcells (ps.take j) ++ noDOps (ps.length - j)
theorem laidD_length (ps:List DOpL) (j:Nat) (h:j≤ps.length):(laidD ps j).length=ps.length*4:=by
 simp[laidD,dcells_length,noDOps_length,Nat.min_eq_left h]
 try omega
theorem laidD_all (ps:List DOpL):laidD ps ps.length=dcells ps:=by simp[laidD,noDOps]
theorem laidD_zero (ps:List DOpL):laidD ps 0=noDOps ps.length:=by simp[laidD,dcells]
theorem take_snocD (ps:List DOpL) (j:Nat) (h:j<ps.length):ps.take (j+1)=ps.take j ++ [ps[j]]:=by rw[List.take_succ_eq_append_getElem h]
theorem laidD_step (ps:List DOpL) (j:Nat) (h:j<ps.length):(((((laidD ps j).set (j*4) (.int .i64 ps[j].k)).set (j*4+1) (.string ⟨ps[j].n.toArray⟩)).set (j*4+2) (.string ⟨ps[j].t.toArray⟩)).set (j*4+3) (.string ⟨ps[j].d.toArray⟩))=laidD ps (j+1):=by
 have hl:(dcells (ps.take j)).length=j*4:=by rw[dcells_length,List.length_take];omega
 obtain⟨n,hn⟩:∃ n,n=ps.length - (j+1):=⟨_,rfl⟩
 have e:ps.length - j=n+1:=by omega
 simp only[laidD,take_snocD ps j h,dcells_app,e,←hn,noDOps]
 rw[List.set_append_right _ _ (by omega),hl,Nat.sub_self,List.set_append_right _ _ (by omega),hl,List.set_append_right _ _ (by omega),hl,List.set_append_right _ _ (by omega),hl]
 simp[dcells]
def marksD (k n:Nat):List DOpL:=(List.range n).map fun i=>⟨((k+4*i:Nat):Int),markT (k+4*i+1),markT (k+4*i+2),markT (k+4*i+3)⟩
theorem marksD_length (k n:Nat):(marksD k n).length=n:=by simp[marksD]
theorem marksD_at (k n j:Nat) (h:j<(marksD k n).length):(marksD k n)[j]=⟨((k+4*j:Nat):Int),markT (k+4*j+1),markT (k+4*j+2),markT (k+4*j+3)⟩:=by simp[marksD]
theorem marksD_snoc (k j:Nat):marksD k (j+1)=marksD k j ++ [⟨((k+4*j:Nat):Int),markT (k+4*j+1),markT (k+4*j+2),markT (k+4*j+3)⟩]:=by simp[marksD,List.range_succ]
def markedD (k j:Nat) (ps:List DOpL):List Value:=dcells (marksD k j) ++ dcells (ps.drop j)
theorem markedD_zero (k:Nat) (ps:List DOpL):markedD k 0 ps=dcells ps:=by simp[markedD,marksD,dcells]
theorem markedD_all (k:Nat) (ps:List DOpL):markedD k ps.length ps=dcells (marksD k ps.length):=by simp[markedD,dcells]
theorem markedD_length (k j:Nat) (ps:List DOpL) (h:j≤ps.length):(markedD k j ps).length=ps.length*4:=by simp[markedD,dcells_length,marksD_length];omega
theorem markedD_step (k j:Nat) (ps:List DOpL) (h:j<ps.length):(((((markedD k j ps).set (j*4) (.int .i64 ((k+4*j:Nat):Int))).set (j*4+1) (.string ⟨(markT (k+4*j+1)).toArray⟩)).set (j*4+2) (.string ⟨(markT (k+4*j+2)).toArray⟩)).set (j*4+3) (.string ⟨(markT (k+4*j+3)).toArray⟩))=markedD k (j+1) ps:=by
 have hl:(dcells (marksD k j)).length=j*4:=by rw[dcells_length,marksD_length]
 have e:ps.drop j=ps[j] :: ps.drop (j+1):=by rw[List.drop_eq_getElem_cons h]
 simp only[markedD,marksD_snoc,dcells_app,e,dcells]
 rw[List.set_append_right _ _ (by omega),hl,Nat.sub_self,List.set_append_right _ _ (by omega),hl,List.set_append_right _ _ (by omega),hl,List.set_append_right _ _ (by omega),hl]
 simp
theorem made_dops (n:Nat):(madeCells (Value.agg #[.int .i64 0,.string ⟨#[]⟩,.string ⟨#[]⟩,.string ⟨#[]⟩]).cells (n*4)).toList=noDOps n:=by
 apply List.ext_getElem?
 intro j
 by_cases hj:j<n*4
 · obtain⟨q,r,hr,rfl⟩:∃ q r,r<4∧j=q*4+r:=⟨j / 4,j % 4,by omega,by omega⟩
   have hq:q<n:=by omega
   have ha:=noDOps_at n q hq
   match r,hr with
   | 0,_=>rw[Nat.add_zero] at hj ⊢;rw[ha.1];simp[madeCells,hj,Value.cells]
   | 1,_=>rw[ha.2.1];simp[madeCells,hj,Value.cells,Nat.add_mod]
   | 2,_=>rw[ha.2.2.1];simp[madeCells,hj,Value.cells,Nat.add_mod]
   | 3,_=>rw[ha.2.2.2];simp[madeCells,hj,Value.cells,Nat.add_mod]
 · have h1:(noDOps n)[j]? = none:=List.getElem?_eq_none (by rw[noDOps_length];omega)
   rw[h1]
   simp[madeCells,hj]
def opN (p:DOpL):Nat:=p.n.length+p.t.length+p.d.length
def sizeD (ps:List DOpL):Nat:=(ps.map opN).sum
theorem sizeD_snoc (ps:List DOpL) (j:Nat) (h:j<ps.length):sizeD (ps.take (j+1))=sizeD (ps.take j)+opN ps[j]:=by
 rw[take_snocD ps j h];simp only[sizeD,List.map_append,List.sum_append,List.map_cons,List.map_nil,List.sum_cons,List.sum_nil,Nat.add_zero]
theorem sizeD_le (ps:List DOpL) (j:Nat) (h:j<ps.length):opN ps[j]≤sizeD ps:=by
 have h1:sizeD ps=sizeD (ps.take (j+1))+sizeD (ps.drop (j+1)):=by
  conv=>lhs;rw[←List.take_append_drop (j+1) ps]
  simp only[sizeD,List.map_append,List.sum_append]
 rw[h1,sizeD_snoc ps j h];omega
end Go.Proofs.Ytlllkdioojjaeaa
