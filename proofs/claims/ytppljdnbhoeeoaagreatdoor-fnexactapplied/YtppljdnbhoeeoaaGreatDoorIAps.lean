/-
 Texts that are laid as one: IOrd, IAp.
-/
import Derived.Test.YtppljdnbhoeeoaaGreatDoorApMs
import Derived.Test.YtppljdnbhoeeoaaGreatDoorShelfK
import Derived.Test.YtppljdnbhoeeoaaGreatDoorShelfX
namespace Go.Proofs.YtppljdnbhoeeoaaGreatDoor
open Go.RowKit
set_option linter.unusedVariables false
set_option maxHeartbeats 4000000
set_option maxRecDepth 100000
open Go.RowKit Go.Maps Go.Sort Go.Shelf
theorem zvu (m:Nat):AnyZ.SortsIn Tryz.prog Tryz.sortedA_ren Fence.wide m :=
 ⟨fun blk off cap ss W hH hblk hsz=>callsIn_wide.2 (Tryz.slices_Sort_string blk off cap ss W hH hblk hsz),fun p cap W=>callsIn_wide.2 (Tryz.slices_Sort_string_none p cap W)⟩
theorem zvv (mb:Option Nat) (W:World):Calls Tryz.prog 84 #[.map mb] W fun e w'=>e=.returned (.func (.func 107) #[] #[.pointer (some ⟨W.heap.size,0,none⟩)])∧w'=W.alloc (.cells #[.map mb] 100) :=
 (callsIn_wide (n:=5)).1 (AnyZ.keys_in Tryz.keysA Fence.wide 5 trivial rfl mb W)
theorem zvw (mb n:Nat) (D:DataW Value) (R:Value→Option (DataW Value × List MemPlace)) (w:World) (hown:w.ownsMap Tryz.prog 9 R mb n D) (hmax:Maps.size D≤1048576) :
 Calls Tryz.prog 83 #[.func (.func 107) #[] #[.pointer (some ⟨w.heap.size,0,none⟩)]] (w.alloc (.cells #[.map (some mb)] 100)) fun e w'=>∃ (v:Value) (ss:List (List UInt8)),e=.returned v∧ss.Perm (strKeys D) ∧
  w'.ownsRow (w.alloc (.cells #[.map (some mb)] 100)).heap.size 9 1 v ss.length ((ss.mergeSort (fun x y=>decide (x≤y))).map encStr)∧(v=.slice none 0 0↔ss=[])∧Below (w.alloc (.cells #[.map (some mb)] 100)).heap.size (w.alloc (.cells #[.map (some mb)] 100)) w':=by
 have hbl:=hown.lt
 have hseq:SeqGives Fence.wide 2 Tryz.prog 107 #[.pointer (some ⟨w.heap.size,0,none⟩)] encStr (fun ss=>ss.Perm (strKeys D)) (Maps.size D) (w.alloc (.cells #[.map (some mb)] 100)) :=
  AnyZ.keys_gives (ρ:=Tryz.keysA_ren) { Tryz.keysA with } Fence.wide _ trivial rfl (by omega) w.heap.size mb n D _ (by simp) (by simp) (by
   obtain⟨es,clock,hb,Ft,hs,hD⟩:=hown
   exact⟨es,clock,(Below.heap_alloc _ _ mb hbl).trans hb,Ft,hs,hD⟩)
 have cS:=AnyZ.sorted_in Tryz.sortedA Fence.wide 5 trivial trivial trivial trivial rfl (by omega) (zvu _) (enters_of Tryz.func106 (by kernel_rfl) rfl) 107 #[.pointer (some ⟨w.heap.size,0,none⟩)] trivial (enters_of Tryz.func107 (by kernel_rfl) rfl) _ _ (by unfold maxLen;omega) (by omega) _ hseq
 exact (callsIn_wide (n:=5)).1 cS
theorem zvx {w:World} {base e n:Nat} {a:Option Addr} {m cap:Nat} {ls:List (List UInt8)} (h:w.ownsRow base e 1 (.slice a m cap) n (zh ls)):m=ls.length∧n=ls.length∧zt w a ls:=by
 have hn:n=ls.length:=by have:=h.1;rw[zem] at this;omega
 rcases zff h with ⟨hv,h0,hx⟩ | ⟨g,cap',hv,hg1,hg2,hc,hf⟩
 · cases hv
   exact⟨by omega,hn,.inl (List.length_eq_zero_iff.1 (by omega))⟩
 · cases hv
   exact⟨hn,hn,.inr ⟨g,0,rfl,fun j hj=>by rw[Nat.zero_add,hc j (by omega),zgm ls j hj]⟩⟩
theorem zvy:(Tryz.prog.info? 103).map (fun i=>(i.zero,i.size,i.bytes))=some (some (.agg #[.string ⟨#[]⟩,.string ⟨#[]⟩]),2,32):=by kernel_rfl
theorem zvz (w:World):(zeroValue 103).run Tryz.prog w=.ok (.agg #[.string ⟨#[]⟩,.string ⟨#[]⟩]) w:=by kernel_rfl
theorem zw0 (L:List za):(L.map (fun p=>p.1)).map encStr=zh (L.map (fun p=>p.1)):=by simp[zh]
theorem zw1 (mb n:Nat) (D:DataW Value) (L:List za) (w:World) (hl:L.length≤10000) (hm:∀ p∈L,p.1.length≤1048576∧p.2.length≤1048576) (hr:Rise L) (hD:MapIs D L) (hown:w.ownsMap Tryz.prog 9 pvR mb n D) :
 Calls Tryz.prog 62 #[.map (some mb)] w fun e w'=>∃ (a:Option Addr) (m c:Nat),e=.returned (.slice a m c)∧w'.ownsRow w.heap.size 103 2 (.slice a m c) L.length (zb L)∧Below w.heap.size w w':=by
 obtain⟨i0,hi0,hz0,hz1,hz2⟩:=info_parts zvy
 have KK:=zvv (some mb) w
 have KS:=zvw mb n D pvR w hown (by rw[hD.size];omega)
 have B0:Below w.heap.size w (w.alloc (.cells #[.map (some mb)] 100)):=(Below.refl _ _).alloc (Nat.le_refl _) _
 have HKY:Hid (∀ ss:List (List UInt8),ss.Perm (strKeys D)→ss.mergeSort (fun x y=>decide (x≤y))=L.map (fun p=>p.1)):=fun ss h=>hD.keys hr Tryz.underlying9 hown h
 have HM:Hid (w.ownsMap Tryz.prog 9 pvR mb n D):=hown
 have hmb:=hown.lt
 have HAT:Hid (∀ j (h:j<L.length),∀ z,D.atKey (.string L[j].1) z=.held (pv L[j])):=fun j h z=>hD.at_ L[j] (List.getElem_mem _) z
 have HMM:Hid (∀ j (h:j<L.length),L[j].1.length≤1048576∧L[j].2.length≤1048576):=fun j h=>hm _ (List.getElem_mem _)
 clear hD hr hown hm
 go_enter Tryz.func62,Tryz.ntmps62
 go_wp2_with fail
 refine KK.mono ?_
 rintro e w1 ⟨rfl,rfl⟩
 clear KK
 go_wp2_with fail
 refine KS.mono ?_
 rintro e w2 ⟨v,ss,rfl,hp,o2,hnil,b2⟩
 dsimp only
 have hk:=HKY.out ss hp
 have hsl:ss.length=L.length:=by rw[←List.length_mergeSort ss,hk,List.length_map]
 rw[hk,zw0,hsl] at o2
 have B2:=B0.trans (b2.mono B0.size)
 obtain⟨a2,m2,c2,rfl⟩:=zdu o2
 obtain⟨hm2,_,i2⟩:=zvx o2
 have hm2':m2=L.length:=by rw[hm2,List.length_map]
 subst hm2'
 have HM2:Hid (w2.ownsMap Tryz.prog 9 pvR mb n D):=(HM.out.alloc _).kept (row:=none) ⟨b2.os,b2.tape,b2.output,b2.size,fun q hq _=>b2.block q hq⟩ (by simp)
 have HI2:Hid _:=i2
 have HB2:Hid _:=B2
 have hw2:=B2.size
 clear KS hp o2 hnil b2 hk hsl hm2 i2 B0 B2 HM HKY
 by_cases h0:L.length=0
 · have hL:L=[]:=List.length_eq_zero_iff.1 h0
   subst hL
   clear HAT HMM h0
   go_wp2
   refine wp_loop_rounds 1 ?_
   rw[rounds_succ]
   go_wp2
   go_ret
   exact⟨none,0,0,rfl,World.ownsRow_nil _ _ _ _,HB2.out⟩
 · obtain⟨b,off,rfl,hc⟩:∃ b off,a2=some ⟨b,off,none⟩∧∀ j (h:j<L.length),w2.cell? ⟨b,off+j,none⟩=some (.string ⟨L[j].1.toArray⟩):=by
    rcases HI2.out with h | ⟨b,off,h1,h2⟩
    · exact absurd (by have:=congrArg List.length h;simpa using this) h0
    · exact⟨b,off,h1,fun j h=>by have:=h2 j (by simpa using h);rwa [List.getElem_map] at this⟩
   have HC:Hid (∀ W,Below w2.heap.size w2 W→∀ j (h:j<L.length),W.cell? ⟨b,off+j,none⟩=some (.string ⟨L[j].1.toArray⟩)):=fun W hW j h=>(hW.cell (p:=⟨b,off+j,none⟩) (World.block_lt_of_cell? w2 _ (hc j h))).trans (hc j h)
   have HMW:Hid (∀ W,Below w2.heap.size w2 W→W.ownsMap Tryz.prog 9 pvR mb n D):=fun W hW=>HM2.out.kept (row:=none) ⟨hW.os,hW.tape,hW.output,hW.size,fun q hq _=>hW.block q hq⟩ (by simp)
   clear hc HI2 HM2 h0
   have HLL:Hid (L.length≤10000∧mb<w.heap.size∧w.heap.size≤w2.heap.size):=⟨hl,hmb,hw2⟩
   clear hl hmb hw2
   obtain⟨ln,hln⟩:∃ ln,L.length=ln:=⟨_,rfl⟩
   rw[hln]
   have HLN:Hid _:=hln
   clear hln
   go_wp2
   go_loopw [3,5,10] (fun v _ i wr=>∃ j c:Nat,∃ a:Option Addr,j≤ln∧i=.int .i64 (j:Int)∧v=.slice a j c∧Hid (wr.ownsRow w2.heap.size 103 2 (.slice a j c) j (zb (L.take j)))∧Hid (Below w2.heap.size w2 wr)) (fun _ _ i _=>ln - (intOf i).toNat)
   case atStart=>exact⟨0,0,none,Nat.zero_le _,rfl,rfl,by rw[Hid];simpa [zb] using World.ownsRow_nil w2 w2.heap.size 103 2,Below.refl _ _⟩
   case round =>
    obtain⟨j,c,a,hj,rfl,rfl,HOW,HBW⟩:=hrel
    have hln:=HLN.out
    have hll:=HLL.out.1
    by_cases hlt:j<L.length
    · have c1:=HC.out wr HBW.out j hlt
      obtain⟨hk1,hv1⟩:=HMM.out j hlt
      have hkey:keyOf Tryz.prog 9 (.string ⟨L[j].1.toArray⟩)=some (.string L[j].1):=by
       have:=WideMaps.keyOf_string_mk (P:=Tryz.prog) Tryz.underlying9 (s:=⟨L[j].1.toArray⟩) (by simp[ByteArray.size,maxLen];omega)
       simpa using this
      obtain⟨v,qs,hrun,hR⟩:=(HMW.out wr HBW.out).lookup (t:=100) (e:=103) (string_keyed Tryz.underlying9) Tryz.underlying100 (zvz wr) (zd:=.held (.agg #[.string ⟨#[]⟩,.string ⟨#[]⟩])) (zp:=[]) rfl hkey
      rw[HAT.out j hlt] at hR
      obtain rfl:=zsw hR
      unfold pv at hrun
      have HT:Hid (zb (L.take (j+1))=zb (L.take j) ++ [.string ⟨L[j].1.toArray⟩,.string ⟨L[j].2.toArray⟩]):=by
       rw[Hid,zdv L j hlt,zc2];rfl
      have hj0:(0:Int)≤(j:Int):=by omega
      have hj1:(j:Int)<(ln:Int):=by omega
      have hjm:j≤10000:=by omega
      obtain⟨x,hx⟩:∃ x,x=L[j].1:=⟨_,rfl⟩
      obtain⟨y,hy⟩:∃ y,y=L[j].2:=⟨_,rfl⟩
      rw[←hx] at c1 hrun HT
      rw[←hy] at hrun HT
      have sw:=HBW.out.size
      have OA:Hid ((wr.alloc (.cells #[.string ⟨x.toArray⟩,.string ⟨y.toArray⟩] 103)).ownsRow w2.heap.size 103 2 (.slice a j c) j (zb (L.take j))):=HOW.out.alloc _
      have BA:Hid (Below w2.heap.size w2 (wr.alloc (.cells #[.string ⟨x.toArray⟩,.string ⟨y.toArray⟩] 103))):=HBW.out.alloc sw _
      clear hR hkey hx hy hk1 hv1 hll hln hlt
      go_wp2_with (at_builtin;refine wpList_append_lies _ rfl _ _ 54 rfl w2.heap.size 103 i0 (.agg #[.string ⟨#[]⟩,.string ⟨#[]⟩]) 2 32 Tryz.underlying54 hi0 hz0 hz1 hz2 rfl (by decide) (.slice a j c) j _ rfl OA.out ⟨wr.heap.size,0,none⟩ 1 1 [.string ⟨x.toArray⟩,.string ⟨y.toArray⟩] rfl rfl (World.news_of_block (cs:=#[.string ⟨x.toArray⟩,.string ⟨y.toArray⟩]) (t:=103) (fr:=(0,0)) (heap_alloc_new wr _)) (by simp[Value.oneCell']) (by omega) (by unfold maxLen;omega) (by omega) (by simp;omega) (wr.heap.size+1) (by simp) ?_;intro g4 c4 w4 hown4 hgrow4 hat4 hlt4)
      have B4:Hid _:=BA.out.grown hgrow4 BA.out.size (fun q hq=>(OA.out.lt q hq).1)
      have O4:Hid (w4.ownsRow w2.heap.size 103 2 (.slice (some ⟨g4,0,none⟩) (j+1) c4) (j+1) (zb (L.take (j+1)))):=by rw[Hid,HT.out];exact hown4
      clear hown4 hgrow4 OA BA HT hrun c1
      first | go_roundw | (go_wp2;go_roundw)
      case rel=>exact⟨j+1,c4,some ⟨g4,0,none⟩,by omega,by go_num,rfl,O4,B4⟩
      case measure=>simp[intOf];omega
    · have hjl:j=ln:=by omega
      subst hjl
      have HE:Hid (wr.ownsRow w.heap.size 103 2 (.slice a j c) L.length (zb L)):=by
       have:=HOW.out
       rw[←hln,List.take_length] at this
       rw[Hid,←hln]
       exact this.mono HLL.out.2.2
      clear HOW hln hll hlt
      go_wp2
      go_ret
      exact⟨a,_,c,rfl,HE.out,HB2.out.trans (HBW.out.mono HLL.out.2.2)⟩
open Go.RowKit Go.Maps
theorem zw2 {L:List za} {j:Nat} (h:Rise L) (hj:j<L.length):∀ x∈L.take j,x.1≠L[j].1:=fun x hx e=>by
 obtain⟨i,hi,rfl⟩:=List.mem_iff_getElem.1 hx
 simp only[List.length_take] at hi
 have:=List.pairwise_iff_getElem.1 h i j (by omega) hj (by omega)
 simp only[List.getElem_take] at e
 rw[e] at this
 exact List.lt_irrefl _ this
theorem zw3 (a : Option Addr) (cap : Nat) (ps : List za) (c n : Int) (b : Option Addr) (cb : Nat) (os : List OpL) (w : World) (hl : ps.length ≤ 1048576) (hm : ∀ p ∈ ps, p.1.length ≤ 1048576 ∧ p.2.length ≤ 1048576) (hs : IsPairs w a ps) (hl2 : os.length ≤ 1048576) (hm2 : ∀ p ∈ os, p.1.length ≤ 1048576 ∧ p.2.1.length ≤ 1048576) (hs2 : IsOps w b os) :
 Calls Tryz.prog 28 #[.slice a ps.length cap,.agg #[.int .i64 c,.int .i64 n,.slice b os.length cb]] w fun e w'=>zj8 w (zbk ps c n os) (zat ps c n os) e w':=by
 have B0:Below w.heap.size w (w.alloc (.cells #[.int .i64 c,.int .i64 n,.slice b os.length cb] 40)):=(Below.refl _ _).alloc (Nat.le_refl _) _
 obtain⟨q0,q1,q2,_⟩:=zaf (heap_alloc_new w (.cells #[.int .i64 c,.int .i64 n,.slice b os.length cb] 40))
 have K1:=zn1 c n b cb os _ hl2 hm2 (hs2.later B0)
 have HB0:Hid _:=B0
 have HS:Hid (∀ W,Below w.heap.size w W→IsPairs W a ps):=fun W hW=>hs.later hW
 have HM:Hid _:=hm
 have HM2:Hid _:=hm2
 have HOK:Hid (zbk ps c n os=(za3 ps && (zab c n os && za3 (zal ps os)))):=rfl
 have HRN:Hid (zbk ps c n os=false→zat ps c n os=[]):=zj4
 have HRY:Hid (zbk ps c n os=true→zat ps c n os=zal ps os):=zj5
 have HBL:Hid (zab c n os=true→(1≤os.length∧os.length≤12)∧∀ j (h:j<os.length),opOk os[j]=true):=fun h=>by
  simp only[zab,Bool.and_eq_true,decide_eq_true_eq,List.all_eq_true] at h
  exact⟨⟨h.1.1.2,h.1.2⟩,fun j hj=>h.2 _ (List.getElem_mem _)⟩
 obtain⟨ok,hok⟩:∃ ok,ok=zbk ps c n os:=⟨_,rfl⟩
 obtain⟨res,hres⟩:∃ res,res=zat ps c n os:=⟨_,rfl⟩
 rw[←hok] at HOK HRN HRY
 rw[←hres] at HRN HRY
 rw[←hok,←hres]
 clear hs hs2 hm hm2 B0 hok hres
 unfold zn0 at K1
 cases hb:zab c n os with
 | false =>
   rw[hb] at K1
   dsimp only at K1
   have HO:Hid (ok=false):=by rw[Hid,HOK.out,hb];simp
   clear HRY HBL HOK hb
   go_enter Tryz.func28,Tryz.ntmps28
   go_wp2_with fail
   refine K1.mono ?_
   rintro e w1 ⟨rfl,b1⟩
   have B1:=HB0.out.trans (b1.mono HB0.out.size)
   clear K1 b1 q0 q1 q2
   go_wp2
   go_ret2
   exact zez HO.out (HRN.out HO.out) B1
 | true =>
   rw[hb] at K1
   dsimp only at K1
   obtain⟨⟨ho1,ho12⟩,hall⟩:=HBL.out hb
   have HALL:Hid _:=hall
   clear HBL hall
   cases hp:za3 ps with
   | false =>
     have HO:Hid (ok=false):=by rw[Hid,HOK.out,hp];rfl
     clear HRY HOK hb
     go_enter Tryz.func28,Tryz.ntmps28
     go_wp2_with fail
     refine K1.mono ?_
     rintro e w1 ⟨a1,c1,rfl,o1,b1⟩
     have B1:=HB0.out.trans (b1.mono HB0.out.size)
     have K2:=zi0 a cap ps w1 hl HM.out (HS.out w1 B1)
     rw[hp] at K2
     clear K1 b1 q0 q1 q2 o1 hp
     go_wp2_with fail
     refine K2.mono ?_
     rintro e w2 ⟨rfl,b2⟩
     have B2:=B1.trans (b2.mono B1.size)
     clear K2 b2
     go_wp2
     go_ret2
     exact zez HO.out (HRN.out HO.out) B2
   | true =>
     have HR:Hid _:=zm5 hp
     have hp60:=(zfj ps hp).1
     have HOE:Hid (ok=za3 (zal ps os)):=by rw[Hid,HOK.out,hp,hb];rfl
     clear HOK hb
     go_enter Tryz.func28,Tryz.ntmps28
     go_wp2_with fail
     refine K1.mono ?_
     rintro e w1 ⟨a1,c1,rfl,o1,b1⟩
     have B1:=HB0.out.trans (b1.mono HB0.out.size)
     have HB1:Hid _:=B1
     have O1:Hid _:=o1.mono HB0.out.size
     have K2:=zi0 a cap ps w1 hl HM.out (HS.out w1 B1)
     rw[hp] at K2
     have hmm:=@run_makeMap Tryz.prog
     clear K1 b1 q0 q1 q2 o1 hp B1
     go_wp2_with fail
     refine K2.mono ?_
     rintro e w2 ⟨rfl,b2⟩
     have B2:=HB1.out.trans (b2.mono HB1.out.size)
     have HB2:Hid _:=B2
     have O2:Hid _:=zje O1.out b2
     clear K2 b2 B2 HB1 O1
     dsimp only
     obtain⟨g1,rfl⟩:∃ g1,a1=some ⟨g1,0,none⟩:=by
      rcases zff O2.out with ⟨h1,h2,_⟩ | ⟨g,cap',h1,_⟩
      · omega
      · cases h1;exact⟨g,rfl⟩
     have HSZ:Hid (1≤os.length∧ps.length≤60):=⟨ho1,hp60⟩
     have HS2:Hid (∀ W,Below w2.heap.size w2 W→IsPairs W a ps):=fun W hW=>HS.out W (HB2.out.trans (hW.mono HB2.out.size))
     have HCH:Hid (∀ W,Below w2.heap.size w2 W→∀ j (h:j<os.length),W.cell? ⟨g1,j,none⟩=some (chV os[j])):=fun W hW j h=>by
      have h1:=(zje O2.out hW).cellAt j (by simpa using h)
      rw[h1];simp[h]
     have HM0:Hid ((w2.alloc (.map #[] 0)).ownsMap Tryz.prog 9 pvR w2.heap.size 0 (.map [])):=World.ownsMap_made _ _ _ _
     have HX0:Hid (Below w2.heap.size w2 (w2.alloc (.map #[] 0))):=(Below.refl _ _).alloc (Nat.le_refl _) _
     clear HS O2 hl hl2 ho1 hp60
     go_wp2
     go_loopw [10,29] (fun _ v29 wr=>∃ (j:Nat) (D:DataW Value),j≤ps.length∧v29=.int .i64 (j:Int)∧Hid (MapIs D (ps.take j))∧Hid (wr.ownsMap Tryz.prog 9 pvR w2.heap.size j D)∧Hid (Below w2.heap.size w2 wr)) (fun _ v29 _=>ps.length - (intOf v29).toNat)
     case atStart=>exact⟨0,.map [],Nat.zero_le _,rfl,by rw[Hid];simpa using zsx,HM0,HX0⟩
     case round =>
      obtain⟨j,D,hj,rfl,HD,HOM,HBW⟩:=hrel
      by_cases hlt:j<ps.length
      · obtain⟨pb,poff,rfl,hc⟩:∃ pb poff,a=some ⟨pb,poff,none⟩∧(wr.cell? ⟨pb,poff+j*2,none⟩=some (.string ⟨ps[j].1.toArray⟩)∧wr.cell? ⟨pb,poff+j*2+1,none⟩=some (.string ⟨ps[j].2.toArray⟩)):=by
         rcases HS2.out wr HBW.out with h | ⟨pb,poff,h,hc⟩
         · rw[h] at hlt;simp at hlt
         · exact⟨pb,poff,h,hc j hlt⟩
        obtain⟨c0,c1'⟩:=hc
        obtain⟨hx1,hy1⟩:=HM.out ps[j] (List.getElem_mem _)
        have hkey:keyOf Tryz.prog 9 (.string ⟨ps[j].1.toArray⟩)=some (.string ps[j].1):=by
         have:=WideMaps.keyOf_string_mk (P:=Tryz.prog) Tryz.underlying9 (s:=⟨ps[j].1.toArray⟩) (by simp[ByteArray.size,maxLen];omega)
         simpa using this
        have HNX:Hid (MapIs (D.put (.string ps[j].1) (.held (pv (ps[j].1,ps[j].2)))) (ps.take (j+1))):=by
         have h1:=HD.out.snoc ps[j].1 ps[j].2 (zw2 HR.out hlt)
         rw[Hid,List.take_succ_eq_append_getElem hlt]
         exact h1
        have hj0:(0:Int)≤(j:Int):=by omega
        have hj1:(j:Int)<(ps.length:Int):=by omega
        have hj60:j≤60:=by have:=HSZ.out.2;omega
        obtain⟨x,hx⟩:∃ x,x=ps[j].1:=⟨_,rfl⟩
        obtain⟨y,hy⟩:∃ y,y=ps[j].2:=⟨_,rfl⟩
        rw[←hx] at c0 HNX hkey
        rw[←hy] at c1' HNX
        have HK:Hid _:=hkey
        have MA:Hid ((wr.alloc (.cells #[.string ⟨x.toArray⟩,.string ⟨y.toArray⟩] 103)).ownsMap Tryz.prog 9 pvR w2.heap.size j D):=HOM.out.alloc _
        have BA:Hid (Below w2.heap.size w2 (wr.alloc (.cells #[.string ⟨x.toArray⟩,.string ⟨y.toArray⟩] 103))):=HBW.out.alloc HBW.out.size _
        clear hx hy hx1 hy1 hkey hlt
        go_wp2_with (at_mapUpdate;refine wpList_mapUpdate_own _ rfl _ _ _ 101 rfl 9 103 lawS Tryz.underlying101 pvR w2.heap.size j D rfl MA.out (by unfold maxLen;omega) _ _ (.string x) rfl rfl HK.out (.held (pv (x,y))) [] (zmk (x,y)) ?_;intro w4 hown4 hgrow4)
        have M4:Hid _:=hown4
        have B4:Hid (Below w2.heap.size w2 w4):=BA.out.grown hgrow4 BA.out.size (fun q hq=>by cases hq;exact Nat.le_refl _)
        clear hown4 hgrow4 MA BA c0 c1' HOM HBW HD
        first | go_roundw | (go_wp2;go_roundw)
        case rel=>exact⟨j+1,_,by omega,by go_num,HNX,M4,B4⟩
        case measure=>simp[intOf];omega
      · have hjl : j = ps.length := by omega
        subst hjl
        have HD0:Hid (MapIs D (zal ps (os.take 0))):=by rw[Hid,zm3];have:=HD.out;rwa [List.take_length] at this
        clear HD hlt hj
        go_wp2
        obtain⟨wo,rfl⟩:∃ wo,wo=wr:=⟨_,rfl⟩
        go_loopw [12,40] (fun _ v40 wr=>∃ (j:Nat) (D:DataW Value),j≤os.length∧v40=.int .i64 (j:Int)∧Hid (MapIs D (zal ps (os.take j)))∧Hid (wr.ownsMap Tryz.prog 9 pvR w2.heap.size (ps.length+j) D)∧Hid (Below w2.heap.size w2 wr)) (fun _ v40 _=>os.length - (intOf v40).toNat)
        case atStart=>exact⟨0,D,Nat.zero_le _,rfl,HD0,HOM,HBW⟩
        case round =>
         clear HOM HBW HD0
         obtain⟨j,D,hj,rfl,HD,HOM,HBW⟩:=hrel
         have HRL:Hid (Rise (zal ps (os.take j))):=zss _ _ HR.out
         by_cases hlt:j<os.length
         · have c0:=HCH.out wr HBW.out j hlt
           obtain⟨hx1,hy1⟩:=HM2.out os[j] (List.getElem_mem _)
           have K:=zt3 w2.heap.size (ps.length+j) D (zal ps (os.take j)) os[j] wr hx1 hy1 (HALL.out j hlt) (by have:=HSZ.out.2;omega) HRL.out HD.out HOM.out
           rw[←zm4 ps os j hlt] at K
           obtain⟨t,u,hcv⟩:=zmz os[j]
           rw[hcv] at c0 K
           have hj0:(0:Int)≤(j:Int):=by omega
           have hj1:(j:Int)<(os.length:Int):=by omega
           obtain⟨L1,hL1⟩:∃ L1,L1=zal ps (os.take (j+1)):=⟨_,rfl⟩
           have HL1:Hid _:=hL1
           rw[←hL1] at K
           clear hcv hx1 hy1 hlt hL1 HD HOM
           go_wp2_with fail
           refine K.mono ?_
           rintro e w4 ⟨rfl,D4,hD4,hM4,hg4⟩
           have M4:Hid _:=hM4
           have HD4:Hid (MapIs D4 (zal ps (os.take (j+1)))):=by rw[Hid,←HL1.out];exact hD4
           have B4:Hid (Below w2.heap.size w2 w4):=HBW.out.grown hg4 HBW.out.size (fun q hq=>by cases hq;exact Nat.le_refl _)
           clear K hD4 hM4 hg4 c0 HBW HL1
           go_wp2
           go_roundw
           case rel=>exact⟨j+1,D4,by omega,by go_num,HD4,M4,B4⟩
           case measure=>simp[intOf];omega
         · have hjl:j=os.length:=by omega
           subst hjl
           rw[List.take_length] at HD HRL
           have hlen:(zal ps os).length≤72:=by have:=zmi os ps HR.out;have:=HSZ.out.2;omega
           have HSM:Hid _:=zmj os ps HM.out HM2.out
           obtain⟨L,hL⟩:∃ L,L=zal ps os:=⟨_,rfl⟩
           rw[←hL] at HD HRL hlen HSM HOE HRY
           have K:=zw1 w2.heap.size _ D L wr (by omega) HSM.out HRL.out HD.out HOM.out
           clear hL HD HRL HOM hj hlt
           go_wp2_with fail
           refine K.mono ?_
           rintro e w5 ⟨a5,m5,c5,rfl,o5,b5⟩
           obtain⟨rfl,_,i5⟩:=zac o5
           have K6:=zi0 a5 c5 L w5 (by omega) HSM.out i5
           have b25:=HBW.out.trans (b5.mono HBW.out.size)
           have HB5:Hid _:=HB2.out.trans (b25.mono HB2.out.size)
           have HO5:Hid _:=o5.mono (HB2.out.trans (HBW.out.mono HB2.out.size)).size
           obtain⟨r,hr⟩:∃ r,r=za3 L:=⟨_,rfl⟩
           rw[←hr] at K6 HOE
           clear K o5 b5 i5 b25 hr HBW
           go_wp2_with fail
           refine K6.mono ?_
           rintro e w6 ⟨rfl,b6⟩
           have B6:Hid _:=HB5.out.trans (b6.mono HB5.out.size)
           have O6:Hid _:=zaj HO5.out b6
           clear K6 b6 HO5 HB5
           cases r with
           | false =>
             go_wp2
             go_ret2
             exact zez HOE.out (HRN.out HOE.out) B6.out
           | true =>
             have HRE:Hid _:=HRY.out HOE.out
             go_wp2
             go_ret2
             rw[HOE.out,HRE.out]
             exact⟨a5,_,c5,rfl,O6.out,B6.out⟩
end Go.Proofs.YtppljdnbhoeeoaaGreatDoor
