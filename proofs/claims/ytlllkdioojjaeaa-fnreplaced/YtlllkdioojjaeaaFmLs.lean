/-
 Texts that are laid as one: FmList, FileEq.
-/
import Derived.Test.YtlllkdioojjaeaaMapFs
import Derived.Test.YtlllkdioojjaeaaShelfK
import Derived.Test.YtlllkdioojjaeaaShelfX
import Derived.Test.YtlllkdioojjaeaaDkMath
import Derived.Test.YtlllkdioojjaeaaStrsAll
import Derived.Deep.AppendLies
import Derived.Test.YtlllkdioojjaeaaSDos
import Derived.Laws.StructEq
import Derived.BigQuiet
namespace Go.Proofs.Ytlllkdioojjaeaa
open Go.RowKit
set_option linter.unusedVariables false
open Go.RowKit Go.Maps Go.Sort Go.Shelf
theorem rowB_string {w:World} {base:Nat} {v:Value} {d:List UInt8} (h:RowB w base v d):(convert 57 9 v).run Try.prog w=.ok (.string ⟨d.toArray⟩) w:=by
 rcases h with ⟨rfl,rfl⟩ | ⟨g,cap,rfl,h⟩
 · kernel_rfl
 · exact row_string Try.underlying57 Try.underlying5 Try.underlying9 h
theorem sortsK (m:Nat):AnyZ.SortsIn Try.prog Try.sortedA_ren Fence.wide m :=
 ⟨fun blk off cap ss W hH hblk hsz=>callsIn_wide.2 (Try.slices_Sort_string blk off cap ss W hH hblk hsz),fun p cap W=>callsIn_wide.2 (Try.slices_Sort_string_none p cap W)⟩
theorem impl_mapKeys (mb:Option Nat) (W:World):Calls Try.prog 81 #[.map mb] W fun e w'=>e=.returned (.func (.func 94) #[] #[.pointer (some ⟨W.heap.size,0,none⟩)])∧w'=W.alloc (.cells #[.map mb] 75) :=
 (callsIn_wide (n:=5)).1 (AnyZ.keys_in Try.keysA Fence.wide 5 trivial rfl mb W)
theorem impl_sortedKeys (mb n:Nat) (D:DataW Value) (R:Value→Option (DataW Value × List MemPlace)) (w:World) (hown:w.ownsMap Try.prog 9 R mb n D) (hmax:Maps.size D≤1048576) :
 Calls Try.prog 80 #[.func (.func 94) #[] #[.pointer (some ⟨w.heap.size,0,none⟩)]] (w.alloc (.cells #[.map (some mb)] 75)) fun e w'=>∃ (v:Value) (ss:List (List UInt8)),e=.returned v∧ss.Perm (strKeys D) ∧
  w'.ownsRow (w.alloc (.cells #[.map (some mb)] 75)).heap.size 9 1 v ss.length ((ss.mergeSort (fun x y=>decide (x≤y))).map encStr)∧(v=.slice none 0 0↔ss=[])∧Below (w.alloc (.cells #[.map (some mb)] 75)).heap.size (w.alloc (.cells #[.map (some mb)] 75)) w':=by
 have hbl:=hown.lt
 have hseq:SeqGives Fence.wide 2 Try.prog 94 #[.pointer (some ⟨w.heap.size,0,none⟩)] encStr (fun ss=>ss.Perm (strKeys D)) (Maps.size D) (w.alloc (.cells #[.map (some mb)] 75)) :=
  AnyZ.keys_gives (ρ:=Try.keysA_ren) { Try.keysA with } Fence.wide _ trivial rfl (by omega) w.heap.size mb n D _ (by simp) (by simp) (by
   obtain⟨es,clock,hb,Ft,hs,hD⟩:=hown
   exact⟨es,clock,(Below.heap_alloc _ _ mb hbl).trans hb,Ft,hs,hD⟩)
 have cS:=AnyZ.sorted_in Try.sortedA Fence.wide 5 trivial trivial trivial trivial rfl (by omega) (sortsK _) (enters_of Try.func93 (by kernel_rfl) rfl) 94 #[.pointer (some ⟨w.heap.size,0,none⟩)] trivial (enters_of Try.func94 (by kernel_rfl) rfl) _ _ (by unfold maxLen;omega) (by omega) _ hseq
 exact (callsIn_wide (n:=5)).1 cS
theorem strs_ownK {w:World} {base e n:Nat} {a:Option Addr} {m cap:Nat} {ls:List (List UInt8)} (h:w.ownsRow base e 1 (.slice a m cap) n (scells ls)):m=ls.length∧n=ls.length∧IsStrs w a ls:=by
 have hn:n=ls.length:=by have:=h.1;rw[scells_length] at this;omega
 rcases own_cases h with ⟨hv,h0,hx⟩ | ⟨g,cap',hv,hg1,hg2,hc,hf⟩
 · cases hv
   exact⟨by omega,hn,.inl (List.length_eq_zero_iff.1 (by omega))⟩
 · cases hv
   exact⟨hn,hn,.inr ⟨g,0,rfl,fun j hj=>by rw[Nat.zero_add,hc j (by omega),scells_at ls j hj]⟩⟩
theorem enc_keys (L:List PairL):(L.map (fun p=>p.1)).map encStr=scells (L.map (fun p=>p.1)):=by simp[scells]
set_option maxRecDepth 100000 in
set_option maxHeartbeats 2000000 in
theorem impl_list (base mb n:Nat) (L:List PairL) (D:DataW Value) (S:List UInt8→Value) (w:World) (hl:L.length≤10000) (hm:∀ p∈L,p.1.length≤16777216) (hF:FMap w base mb n L D S) :
 Calls Try.prog 52 #[.map (some mb)] w fun e w'=>∃ (a:Option Addr) (m c:Nat),e=.returned (.slice a m c)∧w'.ownsRow w.heap.size 84 2 (.slice a m c) L.length (pcells L)∧Below w.heap.size w w':=by
 obtain⟨i0,hi0,hz0,hz1,hz2⟩:=info_parts infoFile
 have KK:=impl_mapKeys (some mb) w
 have hown:=hF.own
 have KS:=impl_sortedKeys mb n D fvR w hown (by rw[hF.fd.size];omega)
 have B0:Below w.heap.size w (w.alloc (.cells #[.map (some mb)] 75)):=(Below.refl _ _).alloc (Nat.le_refl _) _
 have HKY:Hid (∀ ss:List (List UInt8),ss.Perm (strKeys D)→ss.mergeSort (fun x y=>decide (x≤y))=L.map (fun p=>p.1)):=fun ss h=>hF.fd.keys hF.rise Try.underlying9 hown h
 have HM:Hid (w.ownsMap Try.prog 9 fvR mb n D):=hown
 have hmb:=hown.lt
 have HLK:Hid (∀ W,Below w.heap.size w W→∀ j (h:j<L.length),(Instr.lookup 75 (.map (some mb)) (.string ⟨L[j].1.toArray⟩) false).run Try.prog W=.ok (S L[j].1) W∧(convert 57 9 (S L[j].1)).run Try.prog W=.ok (.string ⟨L[j].2.toArray⟩) W∧∃ a m c,S L[j].1=.slice a m c):=fun W hW j h=>by
  have hFW:=hF.below hW
  have hr:=hFW.look L[j].1 (hm _ (List.getElem_mem _))
  have hik:inK L[j].1 L=true:=(inK_iff _ _).2 ⟨L[j].2,List.getElem_mem h⟩
  rw[rowOf,if_pos hik] at hr
  have hrow:=hFW.rows L[j] (List.getElem_mem h)
  obtain⟨a,c,hs⟩:=hrow.slice
  exact⟨hr,rowB_string hrow,a,_,c,hs⟩
 clear hF hown hm
 go_enter Try.func52,Try.ntmps52
 go_wp2_with fail
 refine KK.mono ?_
 rintro e w1 ⟨rfl,rfl⟩
 clear KK
 go_wp2_with fail
 refine KS.mono ?_
 rintro e w2 ⟨v,ss,rfl,hp,o2,hnil,b2⟩
 dsimp only
 have hk:=HKY.out ss hp
 have hsl:ss.length=L.length:=by rw[←List.length_mergeSort ss,hk,List.length_map]
 rw[hk,enc_keys,hsl] at o2
 have B2:=B0.trans (b2.mono B0.size)
 obtain⟨a2,m2,c2,rfl⟩:=own_slice o2
 obtain⟨hm2,_,i2⟩:=strs_ownK o2
 have hm2':m2=L.length:=by rw[hm2,List.length_map]
 subst hm2'
 have HM2:Hid (w2.ownsMap Try.prog 9 fvR mb n D):=(HM.out.alloc _).kept (row:=none) ⟨b2.os,b2.tape,b2.output,b2.size,fun q hq _=>b2.block q hq⟩ (by simp)
 have HI2:Hid (IsStrs w2 a2 (L.map (fun p=>p.1))):=i2
 have HB2:Hid (Below w.heap.size w w2):=B2
 have hw2:=B2.size
 clear KS hp o2 hnil b2 hk hsl hm2 i2 B0 B2 HM HKY
 by_cases h0:L.length=0
 · have hL:L=[]:=List.length_eq_zero_iff.1 h0
   subst hL
   clear HLK h0
   go_wp2
   refine wp_loop_rounds 1 ?_
   rw[rounds_succ]
   go_wp2
   go_ret
   exact⟨none,0,0,rfl,World.ownsRow_nil _ _ _ _,HB2.out⟩
 · obtain⟨b,off,rfl,hc⟩:∃ b off,a2=some ⟨b,off,none⟩∧∀ j (h:j<L.length),w2.cell? ⟨b,off+j,none⟩=some (.string ⟨L[j].1.toArray⟩):=by
    rcases HI2.out with h | ⟨b,off,h1,h2⟩
    · exact absurd (by have:=congrArg List.length h;simpa using this) h0
    · exact⟨b,off,h1,fun j h=>by have:=h2 j (by simpa using h);rwa [List.getElem_map] at this⟩
   have HC:Hid (∀ W,Below w2.heap.size w2 W→∀ j (h:j<L.length),W.cell? ⟨b,off+j,none⟩=some (.string ⟨L[j].1.toArray⟩)):=fun W hW j h=>(hW.cell (p:=⟨b,off+j,none⟩) (World.block_lt_of_cell? w2 _ (hc j h))).trans (hc j h)
   clear hc HI2 HM2 h0
   have HLL:Hid (L.length≤10000∧mb<w.heap.size∧w.heap.size≤w2.heap.size):=⟨hl,hmb,hw2⟩
   clear hl hmb hw2
   obtain⟨ln,hln⟩:∃ ln,L.length=ln:=⟨_,rfl⟩
   rw[hln]
   have HLN:Hid (L.length=ln):=hln
   clear hln
   go_wp2
   go_loopw [3,5,10] (fun v _ i wr=>∃ j c:Nat,∃ a:Option Addr,j≤ln∧i=.int .i64 (j:Int)∧v=.slice a j c∧Hid (wr.ownsRow w2.heap.size 84 2 (.slice a j c) j (pcells (L.take j)))∧Hid (Below w2.heap.size w2 wr)) (fun _ _ i _=>ln - (intOf i).toNat)
   case atStart=>exact⟨0,0,none,Nat.zero_le _,rfl,rfl,by rw[Hid];simpa [pcells] using World.ownsRow_nil w2 w2.heap.size 84 2,Below.refl _ _⟩
   case round =>
    obtain⟨j,c,a,hj,rfl,rfl,HOW,HBW⟩:=hrel
    have hln:=HLN.out
    have hll:=HLL.out.1
    by_cases hlt:j<L.length
    · have c1:=HC.out wr HBW.out j hlt
      obtain⟨hrun,hcv,a7,m7,c7,hs7⟩:=HLK.out wr (HB2.out.trans (HBW.out.mono HLL.out.2.2)) j hlt
      rw[hs7] at hrun hcv
      have HT:Hid (pcells (L.take (j+1))=pcells (L.take j) ++ [.string ⟨L[j].1.toArray⟩,.string ⟨L[j].2.toArray⟩]):=by
       rw[Hid,take_snocP L j hlt,pcells_app];rfl
      have hj0:(0:Int)≤(j:Int):=by omega
      have hj1:(j:Int)<(ln:Int):=by omega
      have hjm:j≤10000:=by omega
      obtain⟨x,hx⟩:∃ x,x=L[j].1:=⟨_,rfl⟩
      obtain⟨y,hy⟩:∃ y,y=L[j].2:=⟨_,rfl⟩
      rw[←hx] at c1 hrun HT
      rw[←hy] at hcv HT
      have sw:=HBW.out.size
      have OA:Hid ((wr.alloc (.cells #[.string ⟨x.toArray⟩,.string ⟨y.toArray⟩] 84)).ownsRow w2.heap.size 84 2 (.slice a j c) j (pcells (L.take j))):=HOW.out.alloc _
      have BA:Hid (Below w2.heap.size w2 (wr.alloc (.cells #[.string ⟨x.toArray⟩,.string ⟨y.toArray⟩] 84))):=HBW.out.alloc sw _
      clear hs7 hx hy hll hln hlt
      go_wp2_with (at_builtin;refine wpList_append_lies _ rfl _ _ 28 rfl w2.heap.size 84 i0 (.agg #[.string ⟨#[]⟩,.string ⟨#[]⟩]) 2 32 Try.underlying28 hi0 hz0 hz1 hz2 rfl (by decide) (.slice a j c) j _ rfl OA.out ⟨wr.heap.size,0,none⟩ 1 1 [.string ⟨x.toArray⟩,.string ⟨y.toArray⟩] rfl rfl (World.news_of_block (cs:=#[.string ⟨x.toArray⟩,.string ⟨y.toArray⟩]) (t:=84) (fr:=(0,0)) (heap_alloc_new wr _)) (by simp[Value.oneCell']) (by omega) (by unfold maxLen;omega) (by omega) (by simp;omega) (wr.heap.size+1) (by simp) ?_;intro g4 c4 w4 hown4 hgrow4 hat4 hlt4)
      have B4:Hid (Below w2.heap.size w2 w4):=BA.out.grown hgrow4 BA.out.size (fun q hq=>(OA.out.lt q hq).1)
      have O4:Hid (w4.ownsRow w2.heap.size 84 2 (.slice (some ⟨g4,0,none⟩) (j+1) c4) (j+1) (pcells (L.take (j+1)))):=by rw[Hid,HT.out];exact hown4
      clear hown4 hgrow4 OA BA HT hrun hcv c1
      first | go_roundw | (go_wp2;go_roundw)
      case rel=>exact⟨j+1,c4,some ⟨g4,0,none⟩,by omega,by go_num,rfl,O4,B4⟩
      case measure=>simp[intOf];omega
    · have hjl:j=ln:=by omega
      subst hjl
      have HE:Hid (wr.ownsRow w.heap.size 84 2 (.slice a j c) L.length (pcells L)):=by
       have:=HOW.out
       rw[←hln,List.take_length] at this
       rw[Hid,←hln]
       exact this.mono HLL.out.2.2
      clear HOW hln hll hlt
      go_wp2
      go_ret
      exact⟨a,_,c,rfl,HE.out,HB2.out.trans (HBW.out.mono HLL.out.2.2)⟩
theorem neq_fl (x1 x2 y1 y2:List UInt8) (W:World):(binOp .neq 84 (.agg #[.string ⟨x1.toArray⟩,.string ⟨x2.toArray⟩]) (.agg #[.string ⟨y1.toArray⟩,.string ⟨y2.toArray⟩])).run Try.prog W=.ok (.bool (!decide ((x1,x2)=(y1,y2)))) W:=by
 by_cases h1:x1=y1
 · subst h1
   by_cases h2:x2=y2
   · subst h2
     go_simp
   · have hb:(x2 == y2)=false:=by rw[beq_eq_false_iff_ne];exact h2
     have hd:decide ((x1,x2)=(x1,y2))=false:=by simp[h2]
     rw[hd]
     go_simp
 · have hb:(x1 == y1)=false:=by rw[beq_eq_false_iff_ne];exact h1
   have hd:decide ((x1,x2)=(y1,y2))=false:=by simp[h1]
   rw[hd]
   go_simp
set_option maxRecDepth 100000 in
set_option maxHeartbeats 1000000 in
theorem slices_equalF (ps qs : List PairL) (a c : Option Addr) (n m : Nat) (w : World) (hl : ps.length ≤ 16777216) (hl2 : qs.length ≤ 16777216) (hu : IsPairs w a ps) (hv : IsPairs w c qs) :
 Calls Try.prog 51 #[.slice a ps.length n,.slice c qs.length m] w fun e w'=>e=.returned (.bool (decide (ps=qs)))∧Below w.heap.size w w':=by
 by_cases hlen:ps.length=qs.length
 · have h0 : (ps.length : Int) = (qs.length : Int) := by omega
   rw[←hlen]
   rcases hu with rfl | ⟨b,off,rfl,h1⟩
   · have hq:qs=[]:=List.length_eq_zero_iff.1 hlen.symm
     subst hq
     go_enter Try.func51,Try.ntmps51
     go_wp2
     refine wp_loop_rounds 1 ?_
     rw[rounds_succ]
     go_wp2
     go_ret
     exact⟨rfl,Below.refl _ _⟩
   · rcases hv with rfl | ⟨d, of2, rfl, h2⟩
     · have hq:ps=[]:=List.length_eq_zero_iff.1 hlen
       subst hq
       go_enter Try.func51,Try.ntmps51
       go_wp2
       refine wp_loop_rounds 1 ?_
       rw[rounds_succ]
       go_wp2
       go_ret
       exact⟨rfl,Below.refl _ _⟩
     · obtain⟨res,hres⟩:∃ res,res=decide (ps=qs):=⟨_,rfl⟩
       have HNO:Hid (∀ j (h:j<ps.length) (h':j<qs.length),ps[j]≠qs[j]→res=false):=fun j h h' hne=>by
        rw[hres,decide_eq_false_iff_not]
        intro e
        subst e
        exact hne rfl
       have HYES:Hid ((∀ j (h:j<ps.length) (h':j<qs.length),ps[j]=qs[j])→res=true):=fun h=>by
        rw[hres,decide_eq_true_eq]
        exact List.ext_getElem hlen (fun j h1 h2=>h j h1 h2)
       rw[←hres]
       have HLEN:Hid (ps.length=qs.length):=hlen
       clear hres hlen
       go_enter Try.func51,Try.ntmps51
       go_wp2
       go_loopw [5,13] (fun _ i wr=>∃ j:Nat,j≤ps.length∧i=.int .i64 (j:Int)∧Hid (∀ k (h:k<ps.length) (h':k<qs.length),k<j→ps[k]=qs[k])∧Below w.heap.size w wr) (fun _ i _=>ps.length - (intOf i).toNat)
       case atStart=>exact⟨0,Nat.zero_le _,rfl,fun k _ _ hk=>by omega,Below.refl _ _⟩
       case round =>
        obtain⟨j,hj,rfl,HA,hbel⟩:=hrel
        have hsz:=hbel.size
        by_cases hlt:j<ps.length
        · have hlt2:j<qs.length:=by have:=HLEN.out;omega
          have c1:=(hbel.cell (p:=⟨b,off+j*2,none⟩) (World.block_lt_of_cell? w _ (h1 j hlt).1)).trans (h1 j hlt).1
          have c2:=(hbel.cell (p:=⟨b,off+j*2+1,none⟩) (World.block_lt_of_cell? w _ (h1 j hlt).2)).trans (h1 j hlt).2
          have d1:=(hbel.cell (p:=⟨d,of2+j*2,none⟩) (World.block_lt_of_cell? w _ (h2 j hlt2).1)).trans (h2 j hlt2).1
          have d2:=(hbel.cell (p:=⟨d,of2+j*2+1,none⟩) (World.block_lt_of_cell? w _ (h2 j hlt2).2)).trans (h2 j hlt2).2
          have hj0:(0:Int)≤(j:Int):=by omega
          have hj1:(j:Int)<(ps.length:Int):=by omega
          have HB:Hid (ps[j]≠qs[j]→res=false):=HNO.out j hlt hlt2
          have HN:Hid (ps[j]=qs[j]→∀ k (h:k<ps.length) (h':k<qs.length),k<j+1→ps[k]=qs[k]):=fun e k h h' hk=>by
           by_cases ek:k=j
           · subst ek;exact e
           · exact HA.out k h h' (by omega)
          obtain⟨⟨u1,u2⟩,hu⟩:∃ u,u=ps[j]:=⟨_,rfl⟩
          obtain⟨⟨v1,v2⟩,hv⟩:∃ v,v=qs[j]:=⟨_,rfl⟩
          rw[←hu] at c1 c2 HB HN
          rw[←hv] at d1 d2 HB HN
          simp only at c1 c2 d1 d2
          have heq:∀ W:World,(binOp .neq 84 (.agg #[.string ⟨u1.toArray⟩,.string ⟨u2.toArray⟩]) (.agg #[.string ⟨v1.toArray⟩,.string ⟨v2.toArray⟩])).run Try.prog W=.ok (.bool (!decide ((u1,u2)=(v1,v2)))) W:=fun W=>neq_fl u1 u2 v1 v2 W
          clear h1 h2 hu hv HA HNO HYES
          by_cases huv:(u1,u2)=(v1,v2)
          · have hdc:decide ((u1,u2)=(v1,v2))=true:=by simpa using huv
            rw[hdc] at heq
            have HE:Hid ((u1,u2)=(v1,v2)):=huv
            clear hdc huv
            go_wp2
            go_quiet (fail)
            go_wp2
            go_roundw
            case rel=>exact⟨j+1,by omega,by go_num,HN.out HE.out,by first | exact hbel | exact below_dr hbel⟩
            case measure=>simp[intOf];omega
          · have hdc:decide ((u1,u2)=(v1,v2))=false:=by simpa using huv
            rw[hdc] at heq
            have HR:Hid (res=false):=HB.out huv
            clear hdc huv
            go_wp2
            go_quiet (fail)
            go_wp2
            go_ret
            obtain rfl:=HR.out
            exact⟨rfl,by first | exact hbel | exact below_dr hbel⟩
        · have HR:Hid (res=true):=HYES.out (fun k h h'=>HA.out k h h' (by omega))
          have hjn:j=ps.length:=by omega
          subst hjn
          clear h1 h2 HNO HYES HA
          go_wp2
          go_ret
          obtain rfl:=HR.out
          exact⟨rfl,hbel⟩
 · have h0:¬ (ps.length:Int)=(qs.length:Int):=by omega
   have HR:Hid (decide (ps=qs)=false):=by rw[Hid,decide_eq_false_iff_not];intro e;exact hlen (by rw[e])
   rw[HR.out]
   clear hu hv HR
   go_enter Try.func51,Try.ntmps51
   go_wp2
   go_ret
   exact⟨rfl,Below.refl _ _⟩
end Go.Proofs.Ytlllkdioojjaeaa
