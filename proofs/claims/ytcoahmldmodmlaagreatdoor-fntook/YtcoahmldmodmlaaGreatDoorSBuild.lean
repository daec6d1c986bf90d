/-
 Contract: the model's nodes of paths with values (l5Build).
-/
import Derived.Test.YtcoahmldmodmlaaGreatDoorTrieM
import Derived.Test.YtcoahmldmodmlaaGreatDoorSNodeAll
import Derived.Test.YtcoahmldmodmlaaGreatDoorSSum
import Derived.Test.YtcoahmldmodmlaaGreatDoorPairs
import Derived.Deep.AppendLies
namespace Go.Proofs.YtcoahmldmodmlaaGreatDoor
open Go.RowKit
set_option linter.unusedVariables false
def smallE (es:List PairL):Prop:=∀ e∈es,e.1.length≤24∧e.2.length≤60
def BuildAt (f:Nat):Prop:=∀ (es:List PairL) (a b:Option Addr) (ca cb:Nat) (w:World),es≠[]→es.length≤60→Fits f es→smallE es→IsStrs w a (es.map (·.1))→IsStrs w b (es.map (·.2)) →
 Calls Tryz.prog 61 #[.slice a es.length ca,.slice b es.length cb] w fun e w'=>∃ g c:Nat,e=.returned (.slice (some ⟨g,0,none⟩) (buildL f es).length c)∧w'.ownsRow w.heap.size 83 2 (.slice (some ⟨g,0,none⟩) (buildL f es).length c) (buildL f es).length (pcells (buildL f es))∧Below w.heap.size w w'
theorem own_node (w:World) (x y:List UInt8) (base:Nat) (hb:base≤w.heap.size):(w.alloc (.cells #[.string ⟨x.toArray⟩,.string ⟨y.toArray⟩] 83)).ownsRow base 83 2 (.slice (some ⟨w.heap.size,0,none⟩) 1 1) 1 (pcells [(x,y)]) :=
 World.ownsRow_lit w #[_,_] 1 hb (by decide) rfl
theorem strs_atB {w:World} {a:Option Addr} {ls:List (List UInt8)} (h:IsStrs w a ls) (hne:ls≠[]):∃ b off,a=some ⟨b,off,none⟩∧b<w.heap.size∧∀ j (h:j<ls.length),w.cell? ⟨b,off+j,none⟩=some (.string ⟨ls[j].toArray⟩):=by
 rcases h with h | ⟨b,off,rfl,hc⟩
 · exact absurd h hne
 · exact⟨b,off,rfl,by
    cases ls with
    | nil=>exact absurd rfl hne
    | cons x xs=>exact World.block_lt_of_cell? w _ (hc 0 (by simp)),hc⟩
theorem leaf_len (e:PairL) (h1:e.1.length≤24) (h2:e.2.length≤60):(leafT e).length≤33006:=by
 have:=pack_flag_le e.1 true
 exact (listB_len [pack (withFlag e.1 true),e.2] (by simp;omega) (by simp)).2
set_option maxRecDepth 100000 in
set_option maxHeartbeats 2000000 in
theorem spec_buildLeaf (f:Nat) (e:PairL) (a b:Option Addr) (ca cb:Nat) (w:World) (h1:e.1.length≤24) (h2:e.2.length≤60) (ha:IsStrs w a [e.1]) (hb:IsStrs w b [e.2]) :
 Calls Tryz.prog 61 #[.slice a 1 ca,.slice b 1 cb] w fun r w'=>∃ g c:Nat,r=.returned (.slice (some ⟨g,0,none⟩) 1 c)∧w'.ownsRow w.heap.size 83 2 (.slice (some ⟨g,0,none⟩) 1 c) 1 (pcells [nodeP (leafT e)])∧Below w.heap.size w w':=by
 obtain⟨g,off,rfl,hg,hc⟩:=strs_atB ha (by simp)
 obtain⟨d,of2,rfl,hd,hc2⟩:=strs_atB hb (by simp)
 have c0:w.cell? ⟨g,off,none⟩=some (.string ⟨e.1.toArray⟩):=by have:=hc 0 (by simp);simpa using this
 have d0:w.cell? ⟨d,of2,none⟩=some (.string ⟨e.2.toArray⟩):=by have:=hc2 0 (by simp);simpa using this
 have hll:=leaf_len e h1 h2
 obtain⟨p,v⟩:=e
 simp only at h1 h2 c0 d0
 have KP:=l1pre_at p true w.drew h1
 have hxl:=pack_flag_le p true
 have HT:Hid (leafT (p,v)=listB [pack (withFlag p true),v]):=rfl
 obtain⟨x,hx⟩:∃ x,x=pack (withFlag p true):=⟨_,rfl⟩
 rw[←hx] at KP hxl HT
 have HKL:Hid (∀ W q,W.ownsRow w.heap.size 9 1 (.slice (some ⟨q,0,none⟩) 2 2) 2 (scells [x,v])→Calls Tryz.prog 76 #[.slice (some ⟨q,0,none⟩) 2 2] W fun e w'=>e=.returned (.string ⟨(listB [x,v]).toArray⟩)∧Below W.heap.size W w'):=fun W q ho=>spec_l1List q 2 [x,v] _ W (by simp;omega) (by simp) ho
 rw[←HT.out] at HKL
 obtain⟨t,ht⟩:∃ t,t=leafT (p,v):=⟨_,rfl⟩
 rw[←ht] at HKL hll ⊢
 have KS:=fun W=>spec_sum t W (by omega)
 have HN:Hid (nodeP t=(sumL t,t)):=rfl
 rw[HN.out]
 obtain⟨s,hs⟩:∃ s,s=sumL t:=⟨_,rfl⟩
 rw[←hs] at KS ⊢
 clear hx HT ht hs HN hc hc2 ha hb
 go_enter Tryz.func61,Tryz.ntmps61
 go_wp2_with fail
 have SX:Hid (w.cell? ⟨g,off,none⟩=some (.string ⟨p.toArray⟩)∧w.cell? ⟨d,of2,none⟩=some (.string ⟨v.toArray⟩)):=⟨c0,d0⟩
 go_region_held3 (fun w'=>w'.cell? ⟨g,off,none⟩=some (.string ⟨p.toArray⟩)∧w'.cell? ⟨d,of2,none⟩=some (.string ⟨v.toArray⟩))
  (first | exact S2.out | exact S1a.out | exact S1.out | exact SX.out)
  (first
   | (go_at_call 76
      with_reducible refine (HKL.out _ _ O1.out).mono ?_
      rintro e w2 ⟨rfl,b2⟩
      have B2:Hid (Below w.heap.size w w2):=B1a.out.trans (b2.mono B1a.out.size)
      have S2:Hid (w2.cell? ⟨g,off,none⟩=some (.string ⟨p.toArray⟩)∧w2.cell? ⟨d,of2,none⟩=some (.string ⟨v.toArray⟩)):=⟨(B2.out.cell (p:=⟨g,off,none⟩) hg).trans SX.out.1,(B2.out.cell (p:=⟨d,of2,none⟩) hd).trans SX.out.2⟩
      clear b2)
   | (go_at_call 77
      with_reducible refine KP.mono ?_
      rintro e w1 ⟨rfl,b1'⟩
      have b1:Below w.heap.size w w1:=below_undrew b1'
      have S1:Hid (w1.cell? ⟨g,off,none⟩=some (.string ⟨p.toArray⟩)∧w1.cell? ⟨d,of2,none⟩=some (.string ⟨v.toArray⟩)):=⟨(b1.cell (p:=⟨g,off,none⟩) hg).trans SX.out.1,(b1.cell (p:=⟨d,of2,none⟩) hd).trans SX.out.2⟩
      have B1a:Hid (Below w.heap.size w (w1.alloc (.cells #[.string ⟨x.toArray⟩,.string ⟨v.toArray⟩] 9))):=b1.alloc b1.size _
      have S1a:Hid ((w1.alloc (.cells #[.string ⟨x.toArray⟩,.string ⟨v.toArray⟩] 9)).cell? ⟨g,off,none⟩=some (.string ⟨p.toArray⟩)∧(w1.alloc (.cells #[.string ⟨x.toArray⟩,.string ⟨v.toArray⟩] 9)).cell? ⟨d,of2,none⟩=some (.string ⟨v.toArray⟩)):=⟨(B1a.out.cell (p:=⟨g,off,none⟩) hg).trans SX.out.1,(B1a.out.cell (p:=⟨d,of2,none⟩) hd).trans SX.out.2⟩
      have O1:=hidOwn (own_two w1 x v w.heap.size b1.size)
      clear b1 b1'))
 all_goals
  go_wp2_with fail
  refine (KS _).mono ?_
  rintro e w3 ⟨rfl,b3⟩
  have B3:=B2.out.trans (b3.mono B2.out.size)
  have O3:=hidOwn (own_node w3 s t w.heap.size B3.size)
  have B3a:∀ o,Below w.heap.size w (w3.alloc o):=fun o=>B3.alloc B3.size o
  clear b3
  go_wp2
  go_ret
  exact⟨_,_,rfl,O3.out,B3a _⟩
theorem long_len (p h:List UInt8) (h1:p.length≤24) (h2:h.length≤60):(longT p h).length≤33006:=by
 have:=pack_flag_le p false
 exact (listB_len [pack (withFlag p false),h] (by simp;omega) (by simp)).2
theorem cut_fst (n:Nat) (es:List PairL):(cutE n es).map (·.1)=(es.map (·.1)).map (·.drop n):=by simp[cutE]
theorem cut_snd (n:Nat) (es:List PairL):(cutE n es).map (·.2)=es.map (·.2):=by simp[cutE]
theorem new_atS (w:World) {n:Nat} (h:w.heap.size=n) (o:Obj):(w.alloc o).heap[n]? = some o:=by rw[←h];exact heap_alloc_new w o
theorem keptN {w w':World} {b e sz n:Nat} {v:Value} {xs:List Value} (h:w.ownsRow b e sz v n xs) (hb:Below w.heap.size w w'):w'.ownsRow b e sz v n xs :=
 h.kept (row:=none) ⟨hb.os,hb.tape,hb.output,hb.size,fun k hk _=>hb.block k hk⟩ (by cases v.ownBlock with | none=>exact .inl rfl | some k=>exact .inr (by simp))
theorem strs_own9 {w:World} {base e:Nat} {a:Option Addr} {n m cap:Nat} {ls:List (List UInt8)} (h:w.ownsRow base e 1 (.slice a m cap) n (scells ls)):IsStrs w a ls:=(strs_own h).2.2
theorem last_cell {w:World} {B e g n c:Nat} {ns:List PairL} (h:w.ownsRow B e 2 (.slice (some ⟨g,0,none⟩) n c) ns.length (pcells ns)) (h0:0<ns.length):w.cell? ⟨g,(ns.length - 1)*2,none⟩=some (.string ⟨(rootH ns).toArray⟩):=by
 have hl:ns.length - 1<ns.length:=by omega
 have:=(pcells_at ns (ns.length - 1) hl).1
 rcases h.2 with ⟨h',_⟩ | ⟨g',cap',cur,h',_⟩
 · cases h'
 · cases h'
   rw[h.cellAt ((ns.length - 1)*2) (by omega),this]
   have e1:rootH ns=ns[ns.length - 1].1:=by
    rw[rootH,List.getLast?_eq_getElem?,List.getElem?_eq_getElem hl]
   rw[e1]
theorem spec_common (es:List PairL) (a:Option Addr) (ca:Nat) (w:World) (h1:1≤es.length) (hl:es.length≤60) (hsm:smallE es) (ha:IsStrs w a (es.map (·.1))) :
 Calls Tryz.prog 78 #[.slice a es.length ca] w fun e w'=>e=.returned (.int .i64 ((commonL es:Nat):Int))∧Below w.heap.size w w':=by
 cases es with
 | nil=>simp at h1
 | cons e es =>
   have hm:∀ l∈e.1 :: es.map (·.1),l.length≤1000:=fun l h=>by
    have h':l∈(e :: es).map (·.1):=h
    obtain⟨x,hx,rfl⟩:=List.mem_map.1 h'
    have:=(hsm x hx).1;omega
   have:=spec_l5Common a ca e.1 (es.map (fun x:PairL=>x.1)) w (by rw[List.length_map];simp at hl;omega) hm ha
   rw[List.length_map] at this
   exact this
set_option maxRecDepth 100000 in
set_option maxHeartbeats 4000000 in
theorem spec_buildLong (f:Nat) (IH:BuildAt f) (es:List PairL) (a b:Option Addr) (ca cb:Nat) (w:World) (h2:2≤es.length) (hl:es.length≤60) (hf:Fits (f+1) es) (hsm:smallE es) (hc:0<commonL es) (hr:(rootH (buildL f (cutE (commonL es) es))).length≤60) (hne:0<(buildL f (cutE (commonL es) es)).length) (hbl:(buildL f (cutE (commonL es) es)).length≤10000) (ha:IsStrs w a (es.map (·.1))) (hb:IsStrs w b (es.map (·.2))) :
 Calls Tryz.prog 61 #[.slice a es.length ca,.slice b es.length cb] w fun r w'=>∃ g c:Nat,r=.returned (.slice (some ⟨g,0,none⟩) (buildL (f+1) es).length c)∧w'.ownsRow w.heap.size 83 2 (.slice (some ⟨g,0,none⟩) (buildL (f+1) es).length c) (buildL (f+1) es).length (pcells (buildL (f+1) es))∧Below w.heap.size w w':=by
 obtain⟨i0,hi0,hz0,hz1,hz2⟩:=info_parts infoStored
 obtain⟨j0,hj0,hy0,hy1,hy2⟩:=info_parts info9t
 obtain⟨g,off,rfl,hg,hcg⟩:=strs_atB ha (by cases es with | nil=>simp at h2 | cons _ _=>simp)
 have HB:Hid (∀ W,Below w.heap.size w W→IsStrs W b (es.map (·.2))):=fun W hW=>strs_later hb hW
 have HCG:Hid (∀ j (h:j<es.length),w.cell? ⟨g,off+j,none⟩=some (.string ⟨es[j].1.toArray⟩)):=fun j h=>by have:=hcg j (by simpa using h);simpa using this
 have HCM:Hid (∀ j (h:j<es.length),commonL es≤es[j].1.length):=fun j h=>commonL_le es _ (List.getElem_mem h)
 have HS1:Hid (∀ j (h:j<es.length),es[j].1.length≤24):=fun j h=>(hsm _ (List.getElem_mem h)).1
 have HBL:Hid (buildL (f+1) es=buildL f (cutE (commonL es) es) ++ [nodeP (longT ((headP es).take (commonL es)) (rootH (buildL f (cutE (commonL es) es))))]):=build_long f es h2 hc
 have HK1:Hid (Calls Tryz.prog 78 #[.slice (some ⟨g,off,none⟩) es.length ca] w fun e w'=>e=.returned (.int .i64 ((commonL es:Nat):Int))∧Below w.heap.size w w'):=spec_common es (some ⟨g,off,none⟩) ca w (by omega) hl hsm ha
 have HIH:Hid (∀ a' ca' W,IsStrs W a' ((cutE (commonL es) es).map (·.1))→IsStrs W b (es.map (·.2))→Calls Tryz.prog 61 #[.slice a' es.length ca',.slice b es.length cb] W fun e w'=>∃ g c:Nat,e=.returned (.slice (some ⟨g,0,none⟩) (buildL f (cutE (commonL es) es)).length c)∧w'.ownsRow W.heap.size 83 2 (.slice (some ⟨g,0,none⟩) (buildL f (cutE (commonL es) es)).length c) (buildL f (cutE (commonL es) es)).length (pcells (buildL f (cutE (commonL es) es)))∧Below W.heap.size W w'):=by
  intro a' ca' W k1 k2
  have:=IH (cutE (commonL es) es) a' b ca' cb W (by intro e;have h9:=cutE_length (commonL es) es;rw[e,List.length_nil] at h9;omega) (by rw[cutE_length];exact hl) (fits_cut hf hc) (fun e he=>by
   obtain⟨x,hx,rfl⟩:=List.mem_map.1 he
   have:=hsm x hx
   exact⟨by simp only[List.length_drop];omega,this.2⟩) k1 (by rw[cut_snd];exact k2)
  rw[cutE_length] at this
  exact this
 have HHD:Hid (∃ h:0<es.length,headP es=es[0].1):=by
  match es,h2 with
  | e :: es',_=>exact⟨by simp,rfl⟩
 have HCT:Hid (∀ j (h:j<es.length),((cutE (commonL es) es).map (·.1)).take (j+1)=((cutE (commonL es) es).map (·.1)).take j ++ [es[j].1.drop (commonL es)]):=fun j h=>by
  rw[List.take_succ_eq_append_getElem (by simpa [cutE] using h)];simp[cutE]
 have HCL:Hid (((cutE (commonL es) es).map (·.1)).length=es.length):=by rw[Hid];simp[cutE]
 obtain⟨N,hN⟩:∃ N,N=buildL f (cutE (commonL es) es):=⟨_,rfl⟩
 rw[←hN] at HBL HIH hr hne hbl
 obtain⟨cs,hcs⟩:∃ cs,cs=(cutE (commonL es) es).map (·.1):=⟨_,rfl⟩
 rw[←hcs] at HIH HCT HCL
 obtain⟨n,hn⟩:∃ n,n=commonL es:=⟨_,rfl⟩
 rw[←hn] at HBL HK1 hc HCM HCT
 clear hN hcs hn ha hb hcg hf hsm IH
 go_enter Tryz.func61,Tryz.ntmps61
 have hl1:¬ (es.length:Int)=1:=by omega
 have hn0:(0:Int)<(n:Int):=by omega
 go_wp2_with fail
 refine HK1.out.mono ?_
 rintro e w1 ⟨rfl,b1⟩
 have B1a:Below w.heap.size w (w1.alloc (.cells #[] 9)):=b1.alloc b1.size _
 have s1:=b1.size
 clear HK1
 go_wp2
 go_loopw [7,8] (fun o i wr=>∃ (j g1 c1:Nat),j≤es.length∧i=.int .i64 (j:Int)∧o=.slice (some ⟨g1,0,none⟩) j c1∧wr.ownsRow w.heap.size 9 1 (.slice (some ⟨g1,0,none⟩) j c1) j (scells (cs.take j))∧Below w.heap.size w wr) (fun _ i _=>es.length - (intOf i).toNat)
 case atStart=>exact⟨0,w1.heap.size,0,Nat.zero_le _,rfl,rfl,World.ownsRow_lit w1 #[] 0 s1 (Nat.zero_le _) rfl,B1a⟩
 case round =>
  obtain⟨j,g1,c1,hj,rfl,rfl,hown,hbel⟩:=hrel
  have hsz:=hbel.size
  by_cases hlt:j<es.length
  · have cj:=(hbel.cell (p:=⟨g,off+j,none⟩) hg).trans (HCG.out j hlt)
    have hnj:=HCM.out j hlt
    have hpl:=HS1.out j hlt
    have HX:Hid (cs.take (j+1)=cs.take j ++ [es[j].1.drop n]):=HCT.out j hlt
    obtain⟨p,hp⟩:∃ p,p=es[j].1:=⟨_,rfl⟩
    rw[←hp] at cj hnj HX hpl
    have hj1:(j:Int)<(es.length:Int):=by omega
    have hj0':(0:Int)≤(j:Int):=by omega
    have hnp:(n:Int)≤(p.length:Int):=by omega
    have OR:=hidOwn hown
    have hbg:=(hown.lt g1 rfl).1
    clear hp hown
    have hex:=ext_from p n (by omega)
    obtain⟨y,hy⟩:∃ y,y=p.drop n:=⟨_,rfl⟩
    rw[←hy] at hex HX
    clear hy
    go_wp2_with (at_builtin;refine wpList_append_lies _ rfl _ _ 76 rfl w.heap.size 9 j0 (.string ⟨#[]⟩) 1 16 Tryz.underlying76 hj0 hy0 hy1 hy2 rfl (by decide) (.slice (some ⟨g1,0,none⟩) j c1) j _ rfl (OR.out.alloc _) ⟨wr.heap.size,0,none⟩ 1 1 [.string ⟨y.toArray⟩] rfl rfl (World.news_of_block (cs:=#[.string ⟨y.toArray⟩]) (t:=9) (fr:=(0,0)) (heap_alloc_new wr _)) (by simp[Value.oneCell']) (by omega) (by unfold maxLen;omega) (by omega) (by simp;omega) (wr.heap.size+1) (by simp) ?_;intro g4 cap4 w4 hown4 hgrow4 hat4 hlt4)
    have B4:Below w.heap.size w w4:=(hbel.alloc hsz _).grown hgrow4 (by simp;omega) (fun q hq=>by simp[Value.ownBlock] at hq;omega)
    have H4:Hid (w4.ownsRow w.heap.size 9 1 (.slice (some ⟨g4,0,none⟩) (j+1) cap4) (j+1) (scells (cs.take (j+1)))):=by rw[Hid,HX.out,scells_snoc];exact hown4
    clear hown4 hgrow4 hat4 OR HX cj
    go_wp2
    go_roundw
    case rel=>exact⟨j+1,g4,cap4,by omega,by go_num,rfl,H4.out,B4⟩
    case measure=>simp[intOf];omega
  · obtain rfl:j=es.length:=by omega
    have hj1:¬ (es.length:Int)<(es.length:Int):=by omega
    have hcl:=HCL.out
    rw[←hcl,List.take_length,hcl] at hown
    have I9:=strs_own9 hown
    have KI:=HIH.out (some ⟨g1,0,none⟩) c1 wr I9 (HB.out wr hbel)
    clear hown I9 HIH HB HCL hcl HCT
    go_wp2_with fail
    refine KI.mono ?_
    rintro e w2 ⟨g2,c2,rfl,o2,b2⟩
    have B2:=hbel.trans (b2.mono hsz)
    have s2:=B2.size
    obtain⟨h0,hh⟩:=HHD.out
    have z0:w2.cell? ⟨g,off,none⟩=some (.string ⟨(headP es).toArray⟩):=by rw[hh];have:=(B2.cell (p:=⟨g,off+0,none⟩) hg).trans (HCG.out 0 h0);simpa using this
    have z1:=last_cell o2 hne
    have hg2:=own_lt o2
    have hhl:(headP es).length≤24:=by rw[hh];exact HS1.out 0 h0
    have hhn:n≤(headP es).length:=by rw[hh];exact HCM.out 0 h0
    obtain⟨k,hk⟩:∃ k,N.length=k+1:=⟨N.length - 1,by omega⟩
    rw[show N.length - 1=k by omega] at z1
    obtain⟨m,hm⟩:∃ m,m=N.length:=⟨_,rfl⟩
    rw[←hm] at o2 hbl hne hk ⊢
    have HT:Hid (buildL (f+1) es=N ++ [nodeP (longT ((headP es).take n) (rootH N))]):=HBL.out
    have hpl:((headP es).take n).length≤24:=by rw[List.length_take];omega
    have hll:=long_len ((headP es).take n) (rootH N) hpl hr
    have hex:=ext_to (headP es) n hhn
    obtain⟨p,hp⟩:∃ p,p=headP es:=⟨_,rfl⟩
    rw[←hp] at z0 hhl hhn HT hpl hll hex
    obtain⟨hx,hhx⟩:∃ hx,hx=rootH N:=⟨_,rfl⟩
    rw[←hhx] at z1 hr HT hll
    obtain⟨q,hq⟩:∃ q,q=p.take n:=⟨_,rfl⟩
    rw[←hq] at HT hpl hll hex
    have KP:=l1pre_at q false w2.drew hpl
    have hxl:=pack_flag_le q false
    have HTT:Hid (longT q hx=listB [pack (withFlag q false),hx]):=rfl
    obtain⟨x,hx2⟩:∃ x,x=pack (withFlag q false):=⟨_,rfl⟩
    rw[←hx2] at KP hxl HTT
    have HKL:Hid (∀ W r,W.ownsRow w.heap.size 9 1 (.slice (some ⟨r,0,none⟩) 2 2) 2 (scells [x,hx])→Calls Tryz.prog 76 #[.slice (some ⟨r,0,none⟩) 2 2] W fun e w'=>e=.returned (.string ⟨(listB [x,hx]).toArray⟩)∧Below W.heap.size W w'):=fun W r ho=>spec_l1List r 2 [x,hx] _ W (by simp;omega) (by simp) ho
    rw[←HTT.out] at HKL
    obtain⟨t,ht⟩:∃ t,t=longT q hx:=⟨_,rfl⟩
    rw[←ht] at HKL hll HT
    have KS:=fun W=>spec_sum t W (by omega)
    rw[show nodeP t=(sumL t,t) from rfl] at HT
    obtain⟨s,hs⟩:∃ s,s=sumL t:=⟨_,rfl⟩
    rw[←hs] at KS HT
    have O2:=hidOwn (o2.mono hsz)
    have HN0:Hid (N.length=m):=hm.symm
    have i0':(0:Int)≤(k:Int):=by omega
    have i1:(k:Int)<(m:Int):=by omega
    have i2:(m:Int) - 1=(k:Int):=by omega
    have i3:(k:Int)≤100000:=by omega
    have i4:k<m:=by omega
    have hpos:0<es.length:=by omega
    have hpos':(0:Int)<(es.length:Int):=by omega
    have i5:IntKind.i64.wrap (k:Int)=(k:Int):=i64_wrap_small _ (by omega) (by omega)
    have hnp:(n:Int)≤(p.length:Int):=by omega
    clear hx2 HTT ht hs hp hhx hq HHD hh HCG HCM HS1 HBL o2 hk h0 hm
    go_wp2_with fail
    have SX:Hid (w2.cell? ⟨g,off,none⟩=some (.string ⟨p.toArray⟩)∧w2.cell? ⟨g2,k*2,none⟩=some (.string ⟨hx.toArray⟩)):=⟨z0,z1⟩
    have hgw:g<w2.heap.size:=by omega
    go_region_held3 (fun w'=>w'.cell? ⟨g,off,none⟩=some (.string ⟨p.toArray⟩)∧w'.cell? ⟨g2,k*2,none⟩=some (.string ⟨hx.toArray⟩))
     (first | exact S2.out | exact S1a.out | exact S1.out | exact SX.out)
     (first
      | (go_at_call 76
         with_reducible refine (HKL.out _ _ O1.out).mono ?_
         rintro e w4 ⟨rfl,b4⟩
         have C4:Hid (Below w2.heap.size w2 w4):=B1a.out.trans (b4.mono B1a.out.size)
         have S2:Hid (w4.cell? ⟨g,off,none⟩=some (.string ⟨p.toArray⟩)∧w4.cell? ⟨g2,k*2,none⟩=some (.string ⟨hx.toArray⟩)):=⟨(C4.out.cell (p:=⟨g,off,none⟩) hgw).trans SX.out.1,(C4.out.cell (p:=⟨g2,k*2,none⟩) hg2).trans SX.out.2⟩
         clear b4)
      | (go_at_call 77
         with_reducible refine KP.mono ?_
         rintro e w3 ⟨rfl,b1'⟩
         have b1:Below w2.heap.size w2 w3:=below_undrew b1'
         have S1:Hid (w3.cell? ⟨g,off,none⟩=some (.string ⟨p.toArray⟩)∧w3.cell? ⟨g2,k*2,none⟩=some (.string ⟨hx.toArray⟩)):=⟨(b1.cell (p:=⟨g,off,none⟩) hgw).trans SX.out.1,(b1.cell (p:=⟨g2,k*2,none⟩) hg2).trans SX.out.2⟩
         have B1a:Hid (Below w2.heap.size w2 (w3.alloc (.cells #[.string ⟨x.toArray⟩,.string ⟨hx.toArray⟩] 9))):=b1.alloc b1.size _
         have S1a:Hid ((w3.alloc (.cells #[.string ⟨x.toArray⟩,.string ⟨hx.toArray⟩] 9)).cell? ⟨g,off,none⟩=some (.string ⟨p.toArray⟩)∧(w3.alloc (.cells #[.string ⟨x.toArray⟩,.string ⟨hx.toArray⟩] 9)).cell? ⟨g2,k*2,none⟩=some (.string ⟨hx.toArray⟩)):=⟨(B1a.out.cell (p:=⟨g,off,none⟩) hgw).trans SX.out.1,(B1a.out.cell (p:=⟨g2,k*2,none⟩) hg2).trans SX.out.2⟩
         have O1:=hidOwn (own_two w3 x hx w.heap.size (Nat.le_trans s2 b1.size))
         clear b1 b1'))
    all_goals
     go_wp2_with fail
     refine (KS _).mono ?_
     rintro e w5 ⟨rfl,b5⟩
     have C5:Hid (Below w2.heap.size w2 w5):=C4.out.trans (b5.mono C4.out.size)
     have O5:=hidOwn (keptN O2.out C5.out)
     have B5:=B2.trans (C5.out.mono s2)
     have s5:=B5.size
     have hg2l:=(O5.out.lt g2 rfl).1
     clear b5
     go_wp2_with (at_builtin;refine wpList_append_lies _ rfl _ _ 52 rfl w.heap.size 83 i0 (.agg #[.string ⟨#[]⟩,.string ⟨#[]⟩]) 2 32 Tryz.underlying52 hi0 hz0 hz1 hz2 rfl (by decide) (.slice (some ⟨g2,0,none⟩) m c2) m _ rfl (O5.out.alloc _) ⟨w5.heap.size,0,none⟩ 1 1 [.string ⟨s.toArray⟩,.string ⟨t.toArray⟩] rfl rfl (World.news_of_block (cs:=#[.string ⟨s.toArray⟩,.string ⟨t.toArray⟩]) (t:=83) (fr:=(0,0)) (heap_alloc_new w5 _)) (by simp[Value.oneCell']) (by omega) (by unfold maxLen;omega) (by omega) (by simp;omega) (w5.heap.size+1) (by simp) ?_;intro g7 cap7 w7 hown7 hgrow7 hat7 hlt7)
     have B7:Below w.heap.size w w7:=(B5.alloc s5 _).grown hgrow7 (by simp;omega) (fun q hq=>by simp[Value.ownBlock] at hq;omega)
     have H7:Hid (w7.ownsRow w.heap.size 83 2 (.slice (some ⟨g7,0,none⟩) (buildL (f+1) es).length cap7) (buildL (f+1) es).length (pcells (buildL (f+1) es))):=by
      have e1:(buildL (f+1) es).length=m+1:=by rw[HT.out,List.length_append,HN0.out];rfl
      rw[Hid,e1,HT.out,pcells_app];exact hown7
     have HL7:Hid (m+1=(buildL (f+1) es).length):=by rw[Hid,HT.out,List.length_append,HN0.out];rfl
     clear hown7 hgrow7 hat7
     rw[HL7.out]
     go_wp2
     go_ret
     exact⟨_,_,rfl,H7.out,B7⟩
end Go.Proofs.YtcoahmldmodmlaaGreatDoor
