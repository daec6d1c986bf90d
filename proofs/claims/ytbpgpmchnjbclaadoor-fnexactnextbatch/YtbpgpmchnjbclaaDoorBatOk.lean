/-
 Contracts: a batch that is right, of the program and of the model (written by mkbok2.py).
-/
import Derived.Test.YtbpgpmchnjbclaaDoorOpOk
import Derived.Test.YtbpgpmchnjbclaaDoorBatchS
namespace Go.Proofs.YtbpgpmchnjbclaaDoor
open Go.RowKit
set_option linter.unusedVariables false
set_option maxRecDepth 100000 in
theorem impl_numbered (c n:Int) (w:World) :
 Calls Tryd.prog 56 #[.int .i64 c,.int .i64 n] w fun e w'=>e=.returned (.bool (numOk c && numOk n))∧Below w.heap.size w w':=by
 obtain⟨r,hr⟩:∃ r,r=(numOk c && numOk n):=⟨_,rfl⟩
 have HR:Hid (r=(decide (1≤c∧c≤1000000000000) && decide (1≤n∧n≤1000000000000))):=hr
 rw[←hr]
 clear hr
 by_cases h0:1≤c
 · have b0:decide (1≤c)=true:=decide_eq_true h0
   by_cases h1:c≤1000000000000
   · have b1:decide (c≤1000000000000)=true:=decide_eq_true h1
     by_cases h2:1≤n
     · have b2:decide (1≤n)=true:=decide_eq_true h2
       by_cases h3:n≤1000000000000
       · have b3:decide (n≤1000000000000)=true:=decide_eq_true h3
         have HO:Hid (r=true):=by rw[Hid,HR.out];simp[h0,h1,h2,h3]
         clear HR
         go_enter Tryd.func56,Tryd.ntmps56
         go_wp2
         go_ret
         rw[HO.out]
         exact⟨rfl,Below.refl _ _⟩
       · have b3:decide (n≤1000000000000)=false:=decide_eq_false h3
         have HO:Hid (r=false):=by rw[Hid,HR.out];simp[h3]
         clear HR
         go_enter Tryd.func56,Tryd.ntmps56
         go_wp2
         go_ret
         rw[HO.out]
         exact⟨rfl,Below.refl _ _⟩
     · have b2:decide (1≤n)=false:=decide_eq_false h2
       have HO:Hid (r=false):=by rw[Hid,HR.out];simp[h2]
       clear HR
       go_enter Tryd.func56,Tryd.ntmps56
       go_wp2
       go_ret
       rw[HO.out]
       exact⟨rfl,Below.refl _ _⟩
   · have b1:decide (c≤1000000000000)=false:=decide_eq_false h1
     have HO:Hid (r=false):=by rw[Hid,HR.out];simp[h1]
     clear HR
     go_enter Tryd.func56,Tryd.ntmps56
     go_wp2
     go_ret
     rw[HO.out]
     exact⟨rfl,Below.refl _ _⟩
 · have b0:decide (1≤c)=false:=decide_eq_false h0
   have HO:Hid (r=false):=by rw[Hid,HR.out];simp[h0]
   clear HR
   go_enter Tryd.func56,Tryd.ntmps56
   go_wp2
   go_ret
   rw[HO.out]
   exact⟨rfl,Below.refl _ _⟩
set_option maxRecDepth 100000 in
theorem spec_in (n lo hi:Int) (w:World) :
 Calls Tryd.prog 44 #[.int .i64 n,.int .i64 lo,.int .i64 hi] w fun e w'=>e=.returned (.bool (decide (lo≤n∧n≤hi)))∧Below w.heap.size w w':=by
 obtain⟨r,hr⟩:∃ r,r=decide (lo≤n∧n≤hi):=⟨_,rfl⟩
 have HR:Hid (r=decide (lo≤n∧n≤hi)):=hr
 rw[←hr]
 clear hr
 by_cases h0:lo≤n
 · have b0:decide (lo≤n)=true:=decide_eq_true h0
   by_cases h1:n≤hi
   · have b1:decide (n≤hi)=true:=decide_eq_true h1
     have HO:Hid (r=true):=by rw[Hid,HR.out];simp[h0,h1]
     clear HR
     go_enter Tryd.func44,Tryd.ntmps44
     go_wp2
     go_ret
     rw[HO.out]
     exact⟨rfl,Below.refl _ _⟩
   · have b1:decide (n≤hi)=false:=decide_eq_false h1
     have HO:Hid (r=false):=by rw[Hid,HR.out];simp[h1]
     clear HR
     go_enter Tryd.func44,Tryd.ntmps44
     go_wp2
     go_ret
     rw[HO.out]
     exact⟨rfl,Below.refl _ _⟩
 · have b0:decide (lo≤n)=false:=decide_eq_false h0
   have HO:Hid (r=false):=by rw[Hid,HR.out];simp[h0]
   clear HR
   go_enter Tryd.func44,Tryd.ntmps44
   go_wp2
   go_ret
   rw[HO.out]
   exact⟨rfl,Below.refl _ _⟩
theorem keptC {w w':World} {b e n:Nat} {v:Value} {xs:List Value} (h:w.ownsRow b e 1 v n xs) (hb:Below w.heap.size w w'):w'.ownsRow b e 1 v n xs :=
 h.kept (row:=none) ⟨hb.os,hb.tape,hb.output,hb.size,fun k hk _=>hb.block k hk⟩ (by cases v.ownBlock with | none=>exact .inl rfl | some k=>exact .inr (by simp))
theorem chV_iface (p:OpL):∃ t v,chV p=.iface t v:=by
 unfold chV;split
 · exact⟨_,_,rfl⟩
 · exact⟨_,_,rfl⟩
theorem infoCh:(Tryd.prog.info? 87).map (fun i=>(i.zero,i.size,i.bytes))=some (some .nilIface,1,16):=by kernel_rfl
def ChPost (w:World) (ok:Bool) (ps:List OpL) (e:Ending) (w':World):Prop:=match ok with
 | false=>e=.returned (.tuple #[.slice none 0 0,.bool false])∧Below w.heap.size w w'
 | true=>∃ (a:Option Addr) (c:Nat),e=.returned (.tuple #[.slice a ps.length c,.bool true])∧w'.ownsRow w.heap.size 87 1 (.slice a ps.length c) ps.length (ps.map chV)∧Below w.heap.size w w'
set_option maxRecDepth 100000 in
set_option maxHeartbeats 1000000 in
theorem impl_changes (c n : Int) (a : Option Addr) (cap : Nat) (ps : List OpL) (w : World) (hl : ps.length ≤ 1048576) (hm : ∀ p ∈ ps, p.1.length ≤ 1048576 ∧ p.2.1.length ≤ 1048576) (hs : IsOps w a ps) :
 Calls Tryd.prog 42 #[.agg #[.int .i64 c,.int .i64 n,.slice a ps.length cap]] w fun e w'=>ChPost w (batchOk c n ps) ps e w':=by
 obtain⟨i0,hi0,hz0,hz1,hz2⟩:=info_parts infoCh
 have B0:Below w.heap.size w (w.alloc (.cells #[.int .i64 c,.int .i64 n,.slice a ps.length cap] 31)):=(Below.refl _ _).alloc (Nat.le_refl _) _
 have HQ:Hid ((w.alloc (.cells #[.int .i64 c,.int .i64 n,.slice a ps.length cap] 31)).heap[w.heap.size]? = some (.cells #[.int .i64 c,.int .i64 n,.slice a ps.length cap] 31 (0,0))):=heap_alloc_new w _
 have HL:Hid (w.heap.size<(w.alloc (.cells #[.int .i64 c,.int .i64 n,.slice a ps.length cap] 31)).heap.size):=by rw[Hid];simp
 have BX:Hid (Below w.heap.size w (w.alloc (.cells #[.int .i64 c,.int .i64 n,.slice a ps.length cap] 31))):=B0
 have hsx:=hs.later B0
 obtain⟨r,hr⟩:∃ r,r=batchOk c n ps:=⟨_,rfl⟩
 have HR:Hid (r=batchOk c n ps):=hr
 have K:=impl_numbered c n (w.alloc (.cells #[.int .i64 c,.int .i64 n,.slice a ps.length cap] 31))
 rw[←hr]
 clear hr hs B0
 cases hn:(numOk c && numOk n) with
 | false =>
   rw[hn] at K
   have HO:Hid (r=false):=by rw[Hid,HR.out,batchOk,hn];simp
   clear HR hn hsx hm
   go_enter Tryd.func42,Tryd.ntmps42
   go_wp2_with fail
   refine K.mono ?_
   rintro e w1 ⟨rfl,b1⟩
   have B1:=BX.out.trans (b1.mono BX.out.size)
   clear b1 K
   go_wp2
   go_ret2
   rw[HO.out]
   exact⟨rfl,B1⟩
 | true =>
   rw[hn] at K
   have HNC:Hid (numOk c=true∧numOk n=true):=by rw[Hid];simpa using hn
   clear hn
   by_cases h1:1≤ps.length
   · have h1' : ¬ (ps.length : Int) < 1 := by omega
     have h1b:decide ((ps.length:Int)<1)=false:=decide_eq_false h1'
     by_cases h12:ps.length≤12
     · have h12' : ¬ (12 : Int) < (ps.length : Int) := by omega
       have h12b:decide ((12:Int)<(ps.length:Int))=false:=decide_eq_false h12'
       have hm':∀ j (h:j<ps.length),ps[j].1.length≤1048576∧ps[j].2.1.length≤1048576:=fun j h=>hm _ (List.getElem_mem _)
       have HBAD:Hid (∀ j (h:j<ps.length),opOk ps[j]=false→r=false):=fun j h hb=>by rw[HR.out];exact batchOk_bad c n ps j h hb
       have HALL:Hid ((∀ j (h:j<ps.length),opOk ps[j]=true)→r=true):=fun h=>by rw[HR.out];exact batchOk_all c n ps HNC.out.1 HNC.out.2 h1 h12 h
       obtain⟨b,off,rfl,hc⟩:∃ b off,a=some ⟨b,off,none⟩∧∀ j (h:j<ps.length),(w.alloc (.cells #[.int .i64 c,.int .i64 n,.slice a ps.length cap] 31)).cell? ⟨b,off+j*3,none⟩=some (.string ⟨ps[j].1.toArray⟩)∧(w.alloc (.cells #[.int .i64 c,.int .i64 n,.slice a ps.length cap] 31)).cell? ⟨b,off+j*3+1,none⟩=some (.string ⟨ps[j].2.1.toArray⟩)∧(w.alloc (.cells #[.int .i64 c,.int .i64 n,.slice a ps.length cap] 31)).cell? ⟨b,off+j*3+2,none⟩=some (.bool ps[j].2.2):=by
        rcases hsx with h | h
        · rw[h] at h1;simp at h1
        · exact h
       clear HR hsx hm
       go_enter Tryd.func42,Tryd.ntmps42
       go_wp2_with fail
       refine K.mono ?_
       rintro e w1 ⟨rfl,b1⟩
       obtain⟨bc0,bc1,bc2,bcf⟩:=bat_cells ((b1.block w.heap.size HL.out).trans HQ.out)
       have hc1:∀ j (h:j<ps.length),w1.cell? ⟨b,off+j*3,none⟩=some (.string ⟨ps[j].1.toArray⟩)∧w1.cell? ⟨b,off+j*3+1,none⟩=some (.string ⟨ps[j].2.1.toArray⟩)∧w1.cell? ⟨b,off+j*3+2,none⟩=some (.bool ps[j].2.2):=fun j h=>⟨(b1.cell (p:=⟨b,off+j*3,none⟩) (World.block_lt_of_cell? _ _ (hc j h).1)).trans (hc j h).1,(b1.cell (p:=⟨b,off+j*3+1,none⟩) (World.block_lt_of_cell? _ _ (hc j h).2.1)).trans (hc j h).2.1,(b1.cell (p:=⟨b,off+j*3+2,none⟩) (World.block_lt_of_cell? _ _ (hc j h).2.2)).trans (hc j h).2.2⟩
       have B1:=BX.out.trans (b1.mono BX.out.size)
       have hs1:=B1.size
       clear b1 K bcf hc bc0 bc1
       go_wp2
       go_loopw [4,6,7,8,30] (fun v _ _ _ i wr=>∃ j c2:Nat,∃ a2:Option Addr,j≤ps.length∧i=.int .i64 (j:Int)∧v=.slice a2 j c2∧Hid (∀ q (h:q<ps.length),q<j→opOk ps[q]=true)∧wr.ownsRow w1.heap.size 87 1 (.slice a2 j c2) j ((ps.take j).map chV)∧Below w1.heap.size w1 wr) (fun _ _ _ _ i _=>ps.length - (intOf i).toNat)
       case atStart=>exact⟨0,0,none,Nat.zero_le _,rfl,rfl,fun q _ h=>by omega,World.ownsRow_nil _ _ _ _,Below.refl _ _⟩
       case round =>
        obtain⟨j,c2,a2,hj,rfl,rfl,HA,hown,hbel⟩:=hrel
        have hsz:=hbel.size
        have hwb:Below w.heap.size w wr:=B1.trans (hbel.mono hs1)
        by_cases hlt:j<ps.length
        · have d1:=(hbel.cell (p:=⟨b,off+j*3,none⟩) (World.block_lt_of_cell? _ _ (hc1 j hlt).1)).trans (hc1 j hlt).1
          have d2:=(hbel.cell (p:=⟨b,off+j*3+1,none⟩) (World.block_lt_of_cell? _ _ (hc1 j hlt).2.1)).trans (hc1 j hlt).2.1
          have d3:=(hbel.cell (p:=⟨b,off+j*3+2,none⟩) (World.block_lt_of_cell? _ _ (hc1 j hlt).2.2)).trans (hc1 j hlt).2.2
          have m1:=hm' j hlt
          have hj0:(0:Int)≤(j:Int):=by omega
          have hj1:(j:Int)<(ps.length:Int):=by omega
          have HB:Hid (opOk ps[j]=false→r=false):=HBAD.out j hlt
          have HN:Hid (opOk ps[j]=true→∀ q (h:q<ps.length),q<j+1→opOk ps[q]=true):=fun h q hq hk=>by
           by_cases e:q=j
           · subst e;exact h
           · exact HA.out q hq (by omega)
          have HT:Hid ((ps.take (j+1)).map chV=(ps.take j).map chV ++ [chV ps[j]]):=by rw[Hid,take_snocO ps j hlt,List.map_append];rfl
          have hlow:∀ k,(Value.slice a2 j c2).ownBlock=some k→w1.heap.size≤k:=fun k hk=>(hown.lt k hk).1
          obtain⟨p,hp⟩:∃ p,p=ps[j]:=⟨_,rfl⟩
          rw[←hp] at d1 d2 d3 m1 HB HN HT
          obtain⟨x,y,z⟩:=p
          simp only at d1 d2 d3 m1
          have HW:Hid (wr.ownsRow w1.heap.size 87 1 (.slice a2 j c2) j ((ps.take j).map chV)):=hown
          have KO:=impl_changeOf x y z (wr.alloc (.cells #[.string ⟨x.toArray⟩,.string ⟨y.toArray⟩,.bool z] 55)) m1.1 m1.2
          have BW:Hid (Below wr.heap.size wr (wr.alloc (.cells #[.string ⟨x.toArray⟩,.string ⟨y.toArray⟩,.bool z] 55))):=(Below.refl _ _).alloc (Nat.le_refl _) _
          clear hp hown hm' hc1 HA HALL HBAD m1
          go_wp2_with fail
          refine KO.mono ?_
          rintro e w2 ⟨u,rfl,hu,b2⟩
          have bw2:=BW.out.trans (b2.mono BW.out.size)
          have hown2:=keptC HW.out bw2
          have hbel2:=hbel.trans (bw2.mono hsz)
          have hsz2:=hbel2.size
          have B2:=B1.trans (hbel2.mono hs1)
          cases hok:opOk (x,y,z) with
          | false =>
            have HO:Hid (r=false):=HB.out hok
            clear HW b2 bw2 KO hbel hu hok HB HN HT hown2
            go_wp2
            go_ret2
            rw[HO.out]
            exact⟨rfl,B2⟩
          | true =>
            obtain⟨ut,uv,hch⟩:=chV_iface (x,y,z)
            have hu':=hu hok
            rw[hch] at hu'
            subst hu'
            have HU:Hid (Value.iface ut uv=chV (x,y,z)):=hch.symm
            have HN2:Hid (∀ q (h:q<ps.length),q<j+1→opOk ps[q]=true):=HN.out hok
            clear HW b2 bw2 KO hbel hu hok HB HN B2 hch
            go_wp2_with (at_builtin;refine wpList_append_lies _ rfl _ _ 70 rfl w1.heap.size 87 i0 .nilIface 1 16 Tryd.underlying70 hi0 hz0 hz1 hz2 rfl (by decide) (.slice a2 j c2) j _ rfl (hown2.alloc _) ⟨w2.heap.size,0,none⟩ 1 1 [.iface ut uv] rfl rfl (World.news_of_block (cs:=#[.iface ut uv]) (t:=87) (fr:=(0,0)) (heap_alloc_new w2 _)) (by simp[Value.oneCell']) (by omega) (by unfold maxLen;omega) (by omega) (by simp;omega) (w2.heap.size+1) (by simp) ?_;intro g2 cap2 w3 hown3 hgrow hat hlt3)
            have hbel3:Below w1.heap.size w1 w3:=(hbel2.alloc hsz2 _).grown hgrow (by simp;omega) hlow
            have HO3:Hid (w3.ownsRow w1.heap.size 87 1 (.slice (some ⟨g2,0,none⟩) (j+1) cap2) (j+1) ((ps.take (j+1)).map chV)):=by rw[Hid,HT.out,←HU.out];exact hown3
            clear hgrow hown3 hown2 hbel2
            go_roundw
            case rel=>exact⟨j+1,cap2,some ⟨g2,0,none⟩,by omega,by go_num,rfl,HN2.out,HO3.out,hbel3⟩
            case measure=>simp[intOf];omega
        · have hjl:j=ps.length:=by omega
          subst hjl
          have HO:Hid (r=true):=HALL.out (fun q h=>HA.out q h h)
          rw[List.take_length] at hown
          have HW:Hid (wr.ownsRow w1.heap.size 87 1 (.slice a2 ps.length c2) ps.length (ps.map chV)):=hown
          clear hown hc1 hm' HBAD HALL HA
          go_wp2
          go_ret2
          rw[HO.out]
          exact⟨a2,c2,rfl,HW.out.mono hs1,hwb⟩
     · have h12':(12:Int)<(ps.length:Int):=by omega
       have h12b:decide ((12:Int)<(ps.length:Int))=true:=decide_eq_true h12'
       have HO:Hid (r=false):=by rw[Hid,HR.out,batchOk];simp[h12]
       clear HR hsx hm
       go_enter Tryd.func42,Tryd.ntmps42
       go_wp2_with fail
       refine K.mono ?_
       rintro e w1 ⟨rfl,b1⟩
       obtain⟨bc0,bc1,bc2,bcf⟩:=bat_cells ((b1.block w.heap.size HL.out).trans HQ.out)
       have B1:=BX.out.trans (b1.mono BX.out.size)
       clear b1 K bcf
       go_wp2
       go_ret2
       rw[HO.out]
       exact⟨rfl,B1⟩
   · have h1':(ps.length:Int)<1:=by omega
     have h1b:decide ((ps.length:Int)<1)=true:=decide_eq_true h1'
     have h0':ps.length=0:=by omega
     have HO:Hid (r=false):=by rw[Hid,HR.out,batchOk];simp[h0']
     clear HR hsx hm h0'
     go_enter Tryd.func42,Tryd.ntmps42
     go_wp2_with fail
     refine K.mono ?_
     rintro e w1 ⟨rfl,b1⟩
     obtain⟨bc0,bc1,bc2,bcf⟩:=bat_cells ((b1.block w.heap.size HL.out).trans HQ.out)
     have B1:=BX.out.trans (b1.mono BX.out.size)
     clear b1 K bcf
     go_wp2
     go_ret2
     rw[HO.out]
     exact⟨rfl,B1⟩
set_option maxRecDepth 100000 in
set_option maxHeartbeats 1000000 in
theorem impl_batchOk (c n:Int) (a:Option Addr) (cap:Nat) (ps:List OpL) (w:World) (hl:ps.length≤1048576) (hm:∀ p∈ps,p.1.length≤1048576∧p.2.1.length≤1048576) (hs:IsOps w a ps) :
 Calls Tryd.prog 21 #[.agg #[.int .i64 c,.int .i64 n,.slice a ps.length cap]] w fun e w'=>e=.returned (.bool (batchOk c n ps))∧Below w.heap.size w w':=by
 have B0:Below w.heap.size w (w.alloc (.cells #[.int .i64 c,.int .i64 n,.slice a ps.length cap] 31)):=(Below.refl _ _).alloc (Nat.le_refl _) _
 have K:=impl_changes c n a cap ps (w.alloc (.cells #[.int .i64 c,.int .i64 n,.slice a ps.length cap] 31)) hl hm (hs.later B0)
 have BX:Hid (Below w.heap.size w (w.alloc (.cells #[.int .i64 c,.int .i64 n,.slice a ps.length cap] 31))):=B0
 obtain⟨r,hr⟩:∃ r,r=batchOk c n ps:=⟨_,rfl⟩
 rw[←hr] at K ⊢
 clear hr hs B0 hm
 cases r with
 | false =>
   go_enter Tryd.func21,Tryd.ntmps21
   go_wp2_with fail
   refine K.mono ?_
   rintro e w1 ⟨rfl,b1⟩
   have B1:=BX.out.trans (b1.mono BX.out.size)
   clear b1 K
   go_wp2
   go_ret
   exact⟨rfl,B1⟩
 | true =>
   go_enter Tryd.func21,Tryd.ntmps21
   go_wp2_with fail
   refine K.mono ?_
   rintro e w1 ⟨a1,c1,rfl,o1,b1⟩
   have B1:=BX.out.trans (b1.mono BX.out.size)
   clear b1 K o1
   go_wp2
   go_ret
   exact⟨rfl,B1⟩
set_option maxRecDepth 100000 in
set_option maxHeartbeats 1000000 in
theorem spec_batchOk (c n:Int) (a:Option Addr) (cap:Nat) (ps:List OpL) (w:World) (hl:ps.length≤1048576) (hm:∀ p∈ps,p.1.length≤1048576∧p.2.1.length≤1048576) (hs:IsOps w a ps) :
 Calls Tryd.prog 27 #[.agg #[.int .i64 c,.int .i64 n,.slice a ps.length cap]] w fun e w'=>e=.returned (.bool (batchOk c n ps))∧Below w.heap.size w w':=by
 have B0:Below w.heap.size w (w.alloc (.cells #[.int .i64 c,.int .i64 n,.slice a ps.length cap] 31)):=(Below.refl _ _).alloc (Nat.le_refl _) _
 have HQ:Hid ((w.alloc (.cells #[.int .i64 c,.int .i64 n,.slice a ps.length cap] 31)).heap[w.heap.size]? = some (.cells #[.int .i64 c,.int .i64 n,.slice a ps.length cap] 31 (0,0))):=heap_alloc_new w _
 have HL:Hid (w.heap.size<(w.alloc (.cells #[.int .i64 c,.int .i64 n,.slice a ps.length cap] 31)).heap.size):=by rw[Hid];simp
 have BX:Hid (Below w.heap.size w (w.alloc (.cells #[.int .i64 c,.int .i64 n,.slice a ps.length cap] 31))):=B0
 have hsx:=hs.later B0
 obtain⟨r,hr⟩:∃ r,r=batchOk c n ps:=⟨_,rfl⟩
 have HR:Hid (r=batchOk c n ps):=hr
 have K:=spec_in c 1 1000000000000 (w.alloc (.cells #[.int .i64 c,.int .i64 n,.slice a ps.length cap] 31))
 have K2:=fun W=>spec_in n 1 1000000000000 W
 change Calls _ _ _ _ (fun e w'=>e=.returned (.bool (numOk c))∧_) at K
 change ∀ W,Calls _ _ _ _ (fun e w'=>e=.returned (.bool (numOk n))∧_) at K2
 rw[←hr]
 clear hr hs B0
 cases hn:numOk c with
 | false =>
   rw[hn] at K
   have HO:Hid (r=false):=by rw[Hid,HR.out,batchOk,hn];simp
   clear HR hn hsx hm K2
   go_enter Tryd.func27,Tryd.ntmps27
   go_wp2_with fail
   refine K.mono ?_
   rintro e w1 ⟨rfl,b1⟩
   obtain⟨bc0,bc1,bc2,bcf⟩:=bat_cells ((b1.block w.heap.size HL.out).trans HQ.out)
   have B1:=BX.out.trans (b1.mono BX.out.size)
   have HB1:Hid (Below _ _ w1):=b1
   clear b1 K bcf
   go_wp2
   go_ret
   rw[HO.out]
   exact⟨rfl,B1⟩
 | true =>
   rw[hn] at K
   cases hn2:numOk n with
   | false =>
     rw[hn2] at K2
     have HO:Hid (r=false):=by rw[Hid,HR.out,batchOk,hn2];simp
     clear HR hn hn2 hsx hm
     go_enter Tryd.func27,Tryd.ntmps27
     go_wp2_with fail
     refine K.mono ?_
     rintro e w1 ⟨rfl,b1⟩
     obtain⟨bc0,bc1,bc2,bcf⟩:=bat_cells ((b1.block w.heap.size HL.out).trans HQ.out)
     have B1:=BX.out.trans (b1.mono BX.out.size)
     have HB1:Hid (Below _ _ w1):=b1
     clear b1 K bcf
     go_wp2_with fail
     refine (K2 _).mono ?_
     rintro e w2 ⟨rfl,b2⟩
     have B2:=B1.trans (b2.mono B1.size)
     have b12:=HB1.out.trans (b2.mono HB1.out.size)
     clear bc0 bc1 bc2 HB1
     obtain⟨bc0,bc1,bc2,bcf⟩:=bat_cells ((b12.block w.heap.size HL.out).trans HQ.out)
     clear bcf b2 B1 K2
     go_wp2
     go_ret
     rw[HO.out]
     exact⟨rfl,B2⟩
   | true =>
     rw[hn2] at K2
     have HNC:Hid (numOk c=true∧numOk n=true):=⟨hn,hn2⟩
     clear hn hn2
     by_cases h1:1≤ps.length
     · have h1' : ¬ (ps.length : Int) < 1 := by omega
       have h1b:decide ((ps.length:Int)<1)=false:=decide_eq_false h1'
       by_cases h12:ps.length≤12
       · have h12' : ¬ (12 : Int) < (ps.length : Int) := by omega
         have h12b:decide ((12:Int)<(ps.length:Int))=false:=decide_eq_false h12'
         have hm':∀ j (h:j<ps.length),ps[j].1.length≤1048576∧ps[j].2.1.length≤1048576:=fun j h=>hm _ (List.getElem_mem _)
         have HBAD:Hid (∀ j (h:j<ps.length),opOk ps[j]=false→r=false):=fun j h hb=>by rw[HR.out];exact batchOk_bad c n ps j h hb
         have HALL:Hid ((∀ j (h:j<ps.length),opOk ps[j]=true)→r=true):=fun h=>by rw[HR.out];exact batchOk_all c n ps HNC.out.1 HNC.out.2 h1 h12 h
         obtain⟨b,off,rfl,hc⟩:∃ b off,a=some ⟨b,off,none⟩∧∀ j (h:j<ps.length),(w.alloc (.cells #[.int .i64 c,.int .i64 n,.slice a ps.length cap] 31)).cell? ⟨b,off+j*3,none⟩=some (.string ⟨ps[j].1.toArray⟩)∧(w.alloc (.cells #[.int .i64 c,.int .i64 n,.slice a ps.length cap] 31)).cell? ⟨b,off+j*3+1,none⟩=some (.string ⟨ps[j].2.1.toArray⟩)∧(w.alloc (.cells #[.int .i64 c,.int .i64 n,.slice a ps.length cap] 31)).cell? ⟨b,off+j*3+2,none⟩=some (.bool ps[j].2.2):=by
          rcases hsx with h | h
          · rw[h] at h1;simp at h1
          · exact h
         clear HR hsx hm
         go_enter Tryd.func27,Tryd.ntmps27
         go_wp2_with fail
         refine K.mono ?_
         rintro e w1 ⟨rfl,b1⟩
         obtain⟨bc0,bc1,bc2,bcf⟩:=bat_cells ((b1.block w.heap.size HL.out).trans HQ.out)
         have B1:=BX.out.trans (b1.mono BX.out.size)
         have HB1:Hid (Below _ _ w1):=b1
         clear b1 K bcf
         go_wp2_with fail
         refine (K2 _).mono ?_
         rintro e w2 ⟨rfl,b2⟩
         have B2:=B1.trans (b2.mono B1.size)
         have b12:=HB1.out.trans (b2.mono HB1.out.size)
         clear bc0 bc1 bc2 HB1
         obtain⟨bc0,bc1,bc2,bcf⟩:=bat_cells ((b12.block w.heap.size HL.out).trans HQ.out)
         clear bcf b2 B1 K2
         have hs2:=B2.size
         have hc1:∀ j (h:j<ps.length),w2.cell? ⟨b,off+j*3,none⟩=some (.string ⟨ps[j].1.toArray⟩)∧w2.cell? ⟨b,off+j*3+1,none⟩=some (.string ⟨ps[j].2.1.toArray⟩)∧w2.cell? ⟨b,off+j*3+2,none⟩=some (.bool ps[j].2.2):=fun j h=>⟨(b12.cell (p:=⟨b,off+j*3,none⟩) (World.block_lt_of_cell? _ _ (hc j h).1)).trans (hc j h).1,(b12.cell (p:=⟨b,off+j*3+1,none⟩) (World.block_lt_of_cell? _ _ (hc j h).2.1)).trans (hc j h).2.1,(b12.cell (p:=⟨b,off+j*3+2,none⟩) (World.block_lt_of_cell? _ _ (hc j h).2.2)).trans (hc j h).2.2⟩
         have HBC:Hid (w2.cell? ⟨w.heap.size,2,none⟩=some (.slice (some ⟨b,off,none⟩) ps.length cap)):=bc2
         clear b12 hc bc0 bc1
         go_wp2
         clear bc2
         go_loopw [3] (fun i wr=>∃ j:Nat,j≤ps.length∧i=.int .i64 (j:Int)∧Hid (∀ q (h:q<ps.length),q<j→opOk ps[q]=true)∧Below w2.heap.size w2 wr) (fun i _=>ps.length - (intOf i).toNat)
         case atStart=>exact⟨0,Nat.zero_le _,rfl,fun q _ h=>by omega,Below.refl _ _⟩
         case round =>
          obtain⟨j,hj,rfl,HA,hbel⟩:=hrel
          have hsz:=hbel.size
          have hwb:Below w.heap.size w wr:=B2.trans (hbel.mono hs2)
          have bq:=(hbel.cell (p:=⟨w.heap.size,2,none⟩) (World.block_lt_of_cell? _ _ HBC.out)).trans HBC.out
          by_cases hlt:j<ps.length
          · have d1:=(hbel.cell (p:=⟨b,off+j*3,none⟩) (World.block_lt_of_cell? _ _ (hc1 j hlt).1)).trans (hc1 j hlt).1
            have d2:=(hbel.cell (p:=⟨b,off+j*3+1,none⟩) (World.block_lt_of_cell? _ _ (hc1 j hlt).2.1)).trans (hc1 j hlt).2.1
            have d3:=(hbel.cell (p:=⟨b,off+j*3+2,none⟩) (World.block_lt_of_cell? _ _ (hc1 j hlt).2.2)).trans (hc1 j hlt).2.2
            have m1:=hm' j hlt
            have hj0:(0:Int)≤(j:Int):=by omega
            have hj1:(j:Int)<(ps.length:Int):=by omega
            have HB:Hid (opOk ps[j]=false→r=false):=HBAD.out j hlt
            have HN:Hid (opOk ps[j]=true→∀ q (h:q<ps.length),q<j+1→opOk ps[q]=true):=fun h q hq hk=>by
             by_cases e:q=j
             · subst e;exact h
             · exact HA.out q hq (by omega)
            obtain⟨p,hp⟩:∃ p,p=ps[j]:=⟨_,rfl⟩
            rw[←hp] at d1 d2 d3 m1 HB HN
            obtain⟨x,y,z⟩:=p
            simp only at d1 d2 d3 m1
            have KO:=spec_op x y z wr m1.1 m1.2
            clear hp hm' hc1 HA HALL HBAD m1
            go_wp2_with fail
            refine KO.mono ?_
            rintro e w3 ⟨rfl,b3⟩
            have hbel3:=hbel.trans (b3.mono hsz)
            have B3:=B2.trans (hbel3.mono hs2)
            cases hok:opOk (x,y,z) with
            | false =>
              have HO:Hid (r=false):=HB.out hok
              clear b3 KO hbel hok HB HN
              go_wp2
              go_ret
              rw[HO.out]
              exact⟨rfl,B3⟩
            | true =>
              have HN2:Hid (∀ q (h:q<ps.length),q<j+1→opOk ps[q]=true):=HN.out hok
              clear b3 KO hbel hok HB HN B3
              go_wp2
              go_roundw
              case rel=>exact⟨j+1,by omega,by go_num,HN2.out,hbel3⟩
              case measure=>simp[intOf];omega
          · have hjl:j=ps.length:=by omega
            subst hjl
            have HO:Hid (r=true):=HALL.out (fun q h=>HA.out q h h)
            clear hc1 hm' HBAD HALL HA
            go_wp2
            go_ret
            rw[HO.out]
            exact⟨rfl,hwb⟩
       · have h12':(12:Int)<(ps.length:Int):=by omega
         have h12b:decide ((12:Int)<(ps.length:Int))=true:=decide_eq_true h12'
         have HO:Hid (r=false):=by rw[Hid,HR.out,batchOk];simp[h12]
         clear HR hsx hm
         go_enter Tryd.func27,Tryd.ntmps27
         go_wp2_with fail
         refine K.mono ?_
         rintro e w1 ⟨rfl,b1⟩
         obtain⟨bc0,bc1,bc2,bcf⟩:=bat_cells ((b1.block w.heap.size HL.out).trans HQ.out)
         have B1:=BX.out.trans (b1.mono BX.out.size)
         have HB1:Hid (Below _ _ w1):=b1
         clear b1 K bcf
         go_wp2_with fail
         refine (K2 _).mono ?_
         rintro e w2 ⟨rfl,b2⟩
         have B2:=B1.trans (b2.mono B1.size)
         have b12:=HB1.out.trans (b2.mono HB1.out.size)
         clear bc0 bc1 bc2 HB1
         obtain⟨bc0,bc1,bc2,bcf⟩:=bat_cells ((b12.block w.heap.size HL.out).trans HQ.out)
         clear bcf b2 B1 K2
         go_wp2
         go_ret
         rw[HO.out]
         exact⟨rfl,B2⟩
     · have h1':(ps.length:Int)<1:=by omega
       have h1b:decide ((ps.length:Int)<1)=true:=decide_eq_true h1'
       have h0':ps.length=0:=by omega
       have HO:Hid (r=false):=by rw[Hid,HR.out,batchOk];simp[h0']
       clear HR hsx hm h0'
       go_enter Tryd.func27,Tryd.ntmps27
       go_wp2_with fail
       refine K.mono ?_
       rintro e w1 ⟨rfl,b1⟩
       obtain⟨bc0,bc1,bc2,bcf⟩:=bat_cells ((b1.block w.heap.size HL.out).trans HQ.out)
       have B1:=BX.out.trans (b1.mono BX.out.size)
       have HB1:Hid (Below _ _ w1):=b1
       clear b1 K bcf
       go_wp2_with fail
       refine (K2 _).mono ?_
       rintro e w2 ⟨rfl,b2⟩
       have B2:=B1.trans (b2.mono B1.size)
       have b12:=HB1.out.trans (b2.mono HB1.out.size)
       clear bc0 bc1 bc2 HB1
       obtain⟨bc0,bc1,bc2,bcf⟩:=bat_cells ((b12.block w.heap.size HL.out).trans HQ.out)
       clear bcf b2 B1 K2
       go_wp2
       go_ret
       rw[HO.out]
       exact⟨rfl,B2⟩
end Go.Proofs.YtbpgpmchnjbclaaDoor
