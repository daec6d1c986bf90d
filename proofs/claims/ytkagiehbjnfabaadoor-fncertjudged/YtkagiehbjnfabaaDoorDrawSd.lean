/-
 Contracts: the three drawn signers' seeds and roots.
-/
import Derived.Test.YtkagiehbjnfabaaDoorIListAll
import Derived.Test.YtkagiehbjnfabaaDoorSKey
namespace Go.Proofs.YtkagiehbjnfabaaDoor
open Go.RowKit
set_option linter.unusedVariables false
theorem infoSd:(Tryd.prog.info? 9).map (fun i=>(i.zero,i.size,i.bytes))=some (some (.string ⟨#[]⟩),1,16):=by kernel_rfl
theorem keptSd {w w':World} {b e n:Nat} {v:Value} {xs:List Value} (h:w.ownsRow b e 1 v n xs) (hb:Below w.heap.size w w'):w'.ownsRow b e 1 v n xs :=
 h.kept (row:=none) ⟨hb.os,hb.tape,hb.output,hb.size,fun k hk _=>hb.block k hk⟩ (by cases v.ownBlock with | none=>exact .inl rfl | some k=>exact .inr (by simp))
set_option maxRecDepth 100000 in
set_option maxHeartbeats 1000000 in
theorem spec_seeds (w:World) :
 Calls Tryd.prog 25 #[] w fun e w'=>∃ (g:Nat) (ss:List (List UInt8)),e=.returned (.slice (some ⟨g,0,none⟩) 3 3)∧ss.length=3∧(∀ l∈ss,l.length=32)∧w'.ownsRow w.heap.size 9 1 (.slice (some ⟨g,0,none⟩) 3 3) 3 (scells ss)∧Below w.heap.size w w':=by
 have K1:=fun W=>spec_sum [111,110,101] W (by simp)
 have K2:=fun W=>spec_sum [116,119,111] W (by simp)
 have K3:=fun W=>spec_sum [116,104,114,101,101] W (by simp)
 obtain⟨x,hx⟩:∃ x,x=sumL [111,110,101]:=⟨_,rfl⟩
 obtain⟨y,hy⟩:∃ x,x=sumL [116,119,111]:=⟨_,rfl⟩
 obtain⟨z,hz⟩:∃ x,x=sumL [116,104,114,101,101]:=⟨_,rfl⟩
 have h32:x.length=32∧y.length=32∧z.length=32:=by rw[hx,hy,hz];exact⟨sumL_len _,sumL_len _,sumL_len _⟩
 rw[←hx] at K1
 rw[←hy] at K2
 rw[←hz] at K3
 have HL:Hid (x.length=32∧y.length=32∧z.length=32):=h32
 clear hx hy hz h32
 go_enter Tryd.func25,Tryd.ntmps25
 go_wp2_with fail
 refine (K1 _).mono ?_
 rintro e w1 ⟨rfl,b1⟩
 go_wp2_with fail
 refine (K2 _).mono ?_
 rintro e w2 ⟨rfl,b2⟩
 have B2:=b1.trans (b2.mono b1.size)
 go_wp2_with fail
 refine (K3 _).mono ?_
 rintro e w3 ⟨rfl,b3⟩
 have B3:=B2.trans (b3.mono B2.size)
 go_wp2
 go_ret
 refine⟨_,[x,y,z],rfl,rfl,?_,World.ownsRow_lit (e:=9) (size:=1) w3 #[.string ⟨x.toArray⟩,.string ⟨y.toArray⟩,.string ⟨z.toArray⟩] 3 (base:=w.heap.size) B3.size (by decide) rfl,B3.alloc B3.size _⟩
 intro l hl
 have h3:=HL.out
 simp only[List.mem_cons,List.not_mem_nil,or_false] at hl
 rcases hl with rfl | rfl | rfl
 · exact h3.1
 · exact h3.2.1
 · exact h3.2.2
set_option maxRecDepth 100000 in
set_option maxHeartbeats 1000000 in
theorem spec_roots (w:World) :
 Calls Tryd.prog 13 #[] w fun e w'=>∃ (g c:Nat) (ks:List (List UInt8)),e=.returned (.slice (some ⟨g,0,none⟩) 3 c)∧ks.length=3∧(∀ l∈ks,l.length=32)∧w'.ownsRow w.heap.size 9 1 (.slice (some ⟨g,0,none⟩) 3 c) 3 (scells ks)∧Below w.heap.size w w':=by
 obtain⟨i0,hi0,hz0,hz1,hz2⟩:=info_parts infoSd
 have X0:Below w.heap.size w (w.alloc (.cells #[] 9)):=(Below.refl _ _).alloc (Nat.le_refl _) _
 have O0:(w.alloc (.cells #[] 9)).ownsRow w.heap.size 9 1 (.slice (some ⟨w.heap.size,0,none⟩) 0 0) 0 (scells []):=World.ownsRow_lit w #[] 0 (Nat.le_refl _) (Nat.zero_le _) rfl
 have K1:=spec_seeds (w.alloc (.cells #[] 9))
 have HX:Hid (Below w.heap.size w (w.alloc (.cells #[] 9))):=X0
 have HO:Hid ((w.alloc (.cells #[] 9)).ownsRow w.heap.size 9 1 (.slice (some ⟨w.heap.size,0,none⟩) 0 0) 0 (scells [])):=O0
 clear X0 O0
 go_enter Tryd.func13,Tryd.ntmps13
 go_wp2_with fail
 refine K1.mono ?_
 rintro e w1 ⟨gs,ss,rfl,hs3,hs32,os,b1⟩
 have B1:Hid (Below w.heap.size w w1):=HX.out.trans (b1.mono HX.out.size)
 have O1:Hid (w1.ownsRow w.heap.size 9 1 (.slice (some ⟨w.heap.size,0,none⟩) 0 0) 0 (scells [])):=keptSd HO.out b1
 have HC:Hid (∀ W,Below w1.heap.size w1 W→∀ j (h:j<ss.length),W.cell? ⟨gs,j,none⟩=some (.string ⟨ss[j].toArray⟩)):=fun W hW j h=>by
  have h1:=(keptSd os hW).cellAt j (by omega)
  rw[h1,scells_at ss j h]
 have HS:Hid (ss.length=3∧∀ l∈ss,l.length=32):=⟨hs3,hs32⟩
 have HSZ:Hid (gs≠w.heap.size∧w.heap.size<w1.heap.size):=⟨by have:=own_base os;simp at this;omega,by have:=b1.size;simp at this;omega⟩
 clear K1 hs3 hs32 os b1 HX HO
 go_wp2
 go_loopw [1,3] (fun v i wr=>∃ (j g c:Nat) (ks:List (List UInt8)),j≤3∧i=.int .i64 (j:Int)∧v=.slice (some ⟨g,0,none⟩) j c∧Hid (ks.length=j∧∀ l∈ks,l.length=32)∧Hid (wr.ownsRow w.heap.size 9 1 (.slice (some ⟨g,0,none⟩) j c) j (scells ks))∧Hid (wr.cell? ⟨gs,0,none⟩=w1.cell? ⟨gs,0,none⟩∧wr.cell? ⟨gs,1,none⟩=w1.cell? ⟨gs,1,none⟩∧wr.cell? ⟨gs,2,none⟩=w1.cell? ⟨gs,2,none⟩∧gs≠g∧gs<wr.heap.size)∧Hid (Below w.heap.size w wr)) (fun _ i _=>3 - (intOf i).toNat)
 case atStart=>exact⟨0,w.heap.size,0,[],by omega,rfl,rfl,⟨rfl,by simp⟩,O1,⟨rfl,rfl,rfl,HSZ.out.1,World.block_lt_of_cell? w1 _ (HC.out w1 (Below.refl _ _) 0 (by rw[HS.out.1];omega))⟩,B1⟩
 case round =>
  obtain⟨j,g,c,ks,hj,rfl,rfl,HK,HOW,HCE,HBW⟩:=hrel
  by_cases hlt:j<3
  · have hjs:j<ss.length:=by rw[HS.out.1];omega
    have c0:wr.cell? ⟨gs,j,none⟩=some (.string ⟨ss[j].toArray⟩):=by
     rw[←HC.out w1 (Below.refl _ _) j hjs]
     obtain⟨h0,h1,h2,_⟩:=HCE.out
     rcases (show j=0∨j=1∨j=2 by omega) with rfl | rfl | rfl
     · exact h0
     · exact h1
     · exact h2
    have h32:=HS.out.2 ss[j] (List.getElem_mem _)
    obtain⟨s,hs⟩:∃ s,s=ss[j]:=⟨_,rfl⟩
    rw[←hs] at c0 h32
    have K2:=spec_keyRoot s wr h32
    have hrl:=rootL_len s h32
    obtain⟨rt,hrt⟩:∃ rt,rt=rootL s:=⟨_,rfl⟩
    rw[←hrt] at K2 hrl
    have HRL:Hid (rt.length=32):=hrl
    have hj0:(0:Int)≤(j:Int):=by omega
    have hj3:(j:Int)<3:=by omega
    clear hs hrt hrl h32 hjs
    go_wp2_with fail
    refine K2.mono ?_
    rintro e w5 ⟨rfl,b5⟩
    have hsz:=HBW.out.size
    have O5:Hid (w5.ownsRow w.heap.size 9 1 (.slice (some ⟨g,0,none⟩) j c) j (scells ks)):=keptSd HOW.out b5
    have B5:Hid (Below w.heap.size w w5):=HBW.out.trans (b5.mono hsz)
    have C5:Hid (w5.cell? ⟨gs,0,none⟩=w1.cell? ⟨gs,0,none⟩∧w5.cell? ⟨gs,1,none⟩=w1.cell? ⟨gs,1,none⟩∧w5.cell? ⟨gs,2,none⟩=w1.cell? ⟨gs,2,none⟩∧gs≠g∧gs<w5.heap.size):=by
     obtain⟨h0,h1,h2,h3,h4⟩:=HCE.out
     exact⟨(b5.cell (p:=⟨gs,0,none⟩) h4).trans h0,(b5.cell (p:=⟨gs,1,none⟩) h4).trans h1,(b5.cell (p:=⟨gs,2,none⟩) h4).trans h2,h3,Nat.lt_of_lt_of_le h4 b5.size⟩
    have OA:Hid ((w5.alloc (.cells #[.string ⟨rt.toArray⟩] 9)).ownsRow w.heap.size 9 1 (.slice (some ⟨g,0,none⟩) j c) j (scells ks)):=O5.out.alloc _
    have hs5:=B5.out.size
    clear K2 b5 c0 HOW HBW HCE
    go_wp2_with (at_builtin;refine wpList_append_lies _ rfl _ _ 24 rfl w.heap.size 9 i0 (.string ⟨#[]⟩) 1 16 Tryd.underlying24 hi0 hz0 hz1 hz2 rfl (by decide) (.slice (some ⟨g,0,none⟩) j c) j _ rfl OA.out ⟨w5.heap.size,0,none⟩ 1 1 [.string ⟨rt.toArray⟩] rfl rfl (World.news_of_block (cs:=#[.string ⟨rt.toArray⟩]) (t:=9) (fr:=(0,0)) (heap_alloc_new w5 _)) (by simp[Value.oneCell']) (by omega) (by unfold maxLen;omega) (by omega) (by simp;omega) (w5.heap.size+1) (by simp) ?_;intro g2 cap2 w6 hown6 hgrow hat hlt6)
    have HO6:Hid (w6.ownsRow w.heap.size 9 1 (.slice (some ⟨g2,0,none⟩) (j+1) cap2) (j+1) (scells (ks ++ [rt]))):=by rw[Hid,scells_snoc];exact hown6
    have B6:Hid (Below w.heap.size w w6):=below_app0 B5.out hs5 (own_base O5.out) hgrow
    have C6:Hid (w6.cell? ⟨gs,0,none⟩=w1.cell? ⟨gs,0,none⟩∧w6.cell? ⟨gs,1,none⟩=w1.cell? ⟨gs,1,none⟩∧w6.cell? ⟨gs,2,none⟩=w1.cell? ⟨gs,2,none⟩∧gs≠g2∧gs<w6.heap.size):=by
     obtain⟨h0,h1,h2,h3,h4⟩:=C5.out
     have hb:w6.heap[gs]? = w5.heap[gs]? := (hgrow.block gs (by simp;omega) (by simp[Value.ownBlock];omega)).trans (Below.heap_alloc _ _ _ h4)
     have hcc:∀ q,w6.cell? ⟨gs,q,none⟩=w5.cell? ⟨gs,q,none⟩:=fun q=>World.cell?_of_block (a:=⟨gs,q,none⟩) hb
     refine⟨(hcc 0).trans h0,(hcc 1).trans h1,(hcc 2).trans h2,?_,?_⟩
     · rcases hat with h | h
       · simp[Value.ownBlock] at h;omega
       · omega
     · have:=hgrow.size;simp at this;omega
    have HK6:Hid ((ks ++ [rt]).length=j+1∧∀ l∈ks ++ [rt],l.length=32):=by
     refine⟨by rw[List.length_append,HK.out.1];rfl,fun l hl=>?_⟩
     rcases List.mem_append.1 hl with h | h
     · exact HK.out.2 l h
     · rw[List.mem_singleton.1 h];exact HRL.out
    clear hgrow hown6 hat hlt6 O5 B5 C5 OA HK
    first | go_roundw | (go_wp2;go_roundw)
    case rel=>exact⟨j+1,g2,cap2,ks ++ [rt],by omega,by go_num,rfl,HK6,HO6,C6,B6⟩
    case measure=>simp[intOf];omega
  · have hj3:j=3:=by omega
    subst hj3
    clear hlt
    go_wp2
    go_ret
    exact⟨g,c,ks,rfl,HK.out.1,HK.out.2,HOW.out,HBW.out⟩
end Go.Proofs.YtkagiehbjnfabaaDoor
