/-
 Texts that are laid as one: SBuild, SBranch, SBuildT, SAll.
-/
import Derived.Test.YtppljdnbhoeeoaaGreatDoorTrieM
import Derived.Test.YtppljdnbhoeeoaaGreatDoorSNodeAll
namespace Go.Proofs.YtppljdnbhoeeoaaGreatDoor
open Go.RowKit
set_option linter.unusedVariables false
set_option maxHeartbeats 8000000
set_option maxRecDepth 100000
def zcz (es:List za):Prop:=∀ e∈es,e.1.length≤24∧e.2.length≤60
def zl1 (f:Nat):Prop:=∀ (es:List za) (a b:Option Addr) (ca cb:Nat) (w:World),es≠[]→es.length≤60→Fits f es→zcz es→zt w a (es.map (·.1))→zt w b (es.map (·.2)) →
 Calls Tryz.prog 129 #[.slice a es.length ca,.slice b es.length cb] w fun e w'=>∃ g c:Nat,e=.returned (.slice (some ⟨g,0,none⟩) (zk f es).length c)∧w'.ownsRow w.heap.size 59 2 (.slice (some ⟨g,0,none⟩) (zk f es).length c) (zk f es).length (zb (zk f es))∧Below w.heap.size w w'
theorem za1o (w:World) (x y:List UInt8) (base:Nat) (hb:base≤w.heap.size):(w.alloc (.cells #[.string ⟨x.toArray⟩,.string ⟨y.toArray⟩] 59)).ownsRow base 59 2 (.slice (some ⟨w.heap.size,0,none⟩) 1 1) 1 (zb [(x,y)]) :=
 World.ownsRow_lit w #[_,_] 1 hb (by decide) rfl
theorem zes {w:World} {a:Option Addr} {ls:List (List UInt8)} (h:zt w a ls) (hne:ls≠[]):∃ b off,a=some ⟨b,off,none⟩∧b<w.heap.size∧∀ j (h:j<ls.length),w.cell? ⟨b,off+j,none⟩=some (.string ⟨ls[j].toArray⟩):=by
 rcases h with h | ⟨b,off,rfl,hc⟩
 · exact absurd h hne
 · exact⟨b,off,rfl,by
    cases ls with
    | nil=>exact absurd rfl hne
    | cons x xs=>exact World.block_lt_of_cell? w _ (hc 0 (by simp)),hc⟩
theorem zqq (e:za) (h1:e.1.length≤24) (h2:e.2.length≤60):(zev e).length≤33006:=by
 have:=ze1 e.1 true
 exact (zek [pack (za7 e.1 true),e.2] (by simp;omega) (by simp)).2
theorem za1p (f:Nat) (e:za) (a b:Option Addr) (ca cb:Nat) (w:World) (h1:e.1.length≤24) (h2:e.2.length≤60) (ha:zt w a [e.1]) (hb:zt w b [e.2]) :
 Calls Tryz.prog 129 #[.slice a 1 ca,.slice b 1 cb] w fun r w'=>∃ g c:Nat,r=.returned (.slice (some ⟨g,0,none⟩) 1 c)∧w'.ownsRow w.heap.size 59 2 (.slice (some ⟨g,0,none⟩) 1 c) 1 (zb [zbi (zev e)])∧Below w.heap.size w w':=by
 obtain⟨g,off,rfl,hg,hc⟩:=zes ha (by simp)
 obtain⟨d,of2,rfl,hd,hc2⟩:=zes hb (by simp)
 have c0:w.cell? ⟨g,off,none⟩=some (.string ⟨e.1.toArray⟩):=by have:=hc 0 (by simp);simpa using this
 have d0:w.cell? ⟨d,of2,none⟩=some (.string ⟨e.2.toArray⟩):=by have:=hc2 0 (by simp);simpa using this
 have hll:=zqq e h1 h2
 obtain⟨p,v⟩:=e
 simp only at h1 h2 c0 d0
 have KP:=zif p true w.drew h1
 have hxl:=ze1 p true
 have HT:Hid (zev (p,v)=za8 [pack (za7 p true),v]):=rfl
 obtain⟨x,hx⟩:∃ x,x=pack (za7 p true):=⟨_,rfl⟩
 rw[←hx] at KP hxl HT
 have HKL:Hid (∀ W q,W.ownsRow w.heap.size 9 1 (.slice (some ⟨q,0,none⟩) 2 2) 2 (zh [x,v])→Calls Tryz.prog 159 #[.slice (some ⟨q,0,none⟩) 2 2] W fun e w'=>e=.returned (.string ⟨(za8 [x,v]).toArray⟩)∧Below W.heap.size W w'):=fun W q ho=>zfn q 2 [x,v] _ W (by simp;omega) (by simp) ho
 rw[←HT.out] at HKL
 obtain⟨t,ht⟩:∃ t,t=zev (p,v):=⟨_,rfl⟩
 rw[←ht] at HKL hll ⊢
 have KS:=fun W=>zfm t W (by omega)
 have HN:Hid (zbi t=(sumL t,t)):=rfl
 rw[HN.out]
 obtain⟨s,hs⟩:∃ s,s=sumL t:=⟨_,rfl⟩
 rw[←hs] at KS ⊢
 clear hx HT ht hs HN hc hc2 ha hb
 go_enter Tryz.func129,Tryz.ntmps129
 go_wp2_with fail
 have SX:Hid (w.cell? ⟨g,off,none⟩=some (.string ⟨p.toArray⟩)∧w.cell? ⟨d,of2,none⟩=some (.string ⟨v.toArray⟩)):=⟨c0,d0⟩
 go_region_held3 (fun w'=>w'.cell? ⟨g,off,none⟩=some (.string ⟨p.toArray⟩)∧w'.cell? ⟨d,of2,none⟩=some (.string ⟨v.toArray⟩))
  (first | exact S2.out | exact S1a.out | exact S1.out | exact SX.out)
  (first
   | (go_at_call 159
      with_reducible refine (HKL.out _ _ O1.out).mono ?_
      rintro e w2 ⟨rfl,b2⟩
      have B2:Hid (Below w.heap.size w w2):=B1a.out.trans (b2.mono B1a.out.size)
      have S2:Hid (w2.cell? ⟨g,off,none⟩=some (.string ⟨p.toArray⟩)∧w2.cell? ⟨d,of2,none⟩=some (.string ⟨v.toArray⟩)):=⟨(B2.out.cell (p:=⟨g,off,none⟩) hg).trans SX.out.1,(B2.out.cell (p:=⟨d,of2,none⟩) hd).trans SX.out.2⟩
      clear b2)
   | (go_at_call 160
      with_reducible refine KP.mono ?_
      rintro e w1 ⟨rfl,b1'⟩
      have b1:Below w.heap.size w w1:=zcp b1'
      have S1:Hid (w1.cell? ⟨g,off,none⟩=some (.string ⟨p.toArray⟩)∧w1.cell? ⟨d,of2,none⟩=some (.string ⟨v.toArray⟩)):=⟨(b1.cell (p:=⟨g,off,none⟩) hg).trans SX.out.1,(b1.cell (p:=⟨d,of2,none⟩) hd).trans SX.out.2⟩
      have B1a:Hid (Below w.heap.size w (w1.alloc (.cells #[.string ⟨x.toArray⟩,.string ⟨v.toArray⟩] 9))):=b1.alloc b1.size _
      have S1a:Hid ((w1.alloc (.cells #[.string ⟨x.toArray⟩,.string ⟨v.toArray⟩] 9)).cell? ⟨g,off,none⟩=some (.string ⟨p.toArray⟩)∧(w1.alloc (.cells #[.string ⟨x.toArray⟩,.string ⟨v.toArray⟩] 9)).cell? ⟨d,of2,none⟩=some (.string ⟨v.toArray⟩)):=⟨(B1a.out.cell (p:=⟨g,off,none⟩) hg).trans SX.out.1,(B1a.out.cell (p:=⟨d,of2,none⟩) hd).trans SX.out.2⟩
      have O1:=zc (zih w1 x v w.heap.size b1.size)
      clear b1 b1'))
 all_goals
  go_wp2_with fail
  refine (KS _).mono ?_
  rintro e w3 ⟨rfl,b3⟩
  have B3:=B2.out.trans (b3.mono B2.out.size)
  have O3:=zc (za1o w3 s t w.heap.size B3.size)
  have B3a:∀ o,Below w.heap.size w (w3.alloc o):=fun o=>B3.alloc B3.size o
  clear b3
  go_wp2
  go_ret
  exact⟨_,_,rfl,O3.out,B3a _⟩
theorem zqr (p h:List UInt8) (h1:p.length≤24) (h2:h.length≤60):(zee p h).length≤33006:=by
 have:=ze1 p false
 exact (zek [pack (za7 p false),h] (by simp;omega) (by simp)).2
theorem za1q (n:Nat) (es:List za):(cutE n es).map (·.2)=es.map (·.2):=by simp[cutE]
theorem zan {w w':World} {b e sz n:Nat} {v:Value} {xs:List Value} (h:w.ownsRow b e sz v n xs) (hb:Below w.heap.size w w'):w'.ownsRow b e sz v n xs :=
 h.kept (row:=none) ⟨hb.os,hb.tape,hb.output,hb.size,fun k hk _=>hb.block k hk⟩ (by cases v.ownBlock with | none=>exact .inl rfl | some k=>exact .inr (by simp))
theorem zgq {w:World} {base e:Nat} {a:Option Addr} {n m cap:Nat} {ls:List (List UInt8)} (h:w.ownsRow base e 1 (.slice a m cap) n (zh ls)):zt w a ls:=(zc8 h).2.2
theorem zqs {w:World} {B e g n c:Nat} {ns:List za} (h:w.ownsRow B e 2 (.slice (some ⟨g,0,none⟩) n c) ns.length (zb ns)) (h0:0<ns.length):w.cell? ⟨g,(ns.length - 1)*2,none⟩=some (.string ⟨(za0 ns).toArray⟩):=by
 have hl:ns.length - 1<ns.length:=by omega
 have:=(zea ns (ns.length - 1) hl).1
 rcases h.2 with ⟨h',_⟩ | ⟨g',cap',cur,h',_⟩
 · cases h'
 · cases h'
   rw[h.cellAt ((ns.length - 1)*2) (by omega),this]
   have e1:za0 ns=ns[ns.length - 1].1:=by
    rw[za0,List.getLast?_eq_getElem?,List.getElem?_eq_getElem hl]
   rw[e1]
theorem zqt (es:List za) (a:Option Addr) (ca:Nat) (w:World) (h1:1≤es.length) (hl:es.length≤60) (hsm:zcz es) (ha:zt w a (es.map (·.1))) :
 Calls Tryz.prog 164 #[.slice a es.length ca] w fun e w'=>e=.returned (.int .i64 ((zo es:Nat):Int))∧Below w.heap.size w w':=by
 cases es with
 | nil=>simp at h1
 | cons e es =>
   have hm:∀ l∈e.1 :: es.map (·.1),l.length≤1000:=fun l h=>by
    have h':l∈(e :: es).map (·.1):=h
    obtain⟨x,hx,rfl⟩:=List.mem_map.1 h'
    have:=(hsm x hx).1;omega
   have:=za4a a ca e.1 (es.map (fun x:za=>x.1)) w (by rw[List.length_map];simp at hl;omega) hm ha
   rw[List.length_map] at this
   exact this
theorem za1r (f:Nat) (IH:zl1 f) (es:List za) (a b:Option Addr) (ca cb:Nat) (w:World) (h2:2≤es.length) (hl:es.length≤60) (hf:Fits (f+1) es) (hsm:zcz es) (hc:0<zo es) (hr:(za0 (zk f (cutE (zo es) es))).length≤60) (hne:0<(zk f (cutE (zo es) es)).length) (hbl:(zk f (cutE (zo es) es)).length≤10000) (ha:zt w a (es.map (·.1))) (hb:zt w b (es.map (·.2))) :
 Calls Tryz.prog 129 #[.slice a es.length ca,.slice b es.length cb] w fun r w'=>∃ g c:Nat,r=.returned (.slice (some ⟨g,0,none⟩) (zk (f+1) es).length c)∧w'.ownsRow w.heap.size 59 2 (.slice (some ⟨g,0,none⟩) (zk (f+1) es).length c) (zk (f+1) es).length (zb (zk (f+1) es))∧Below w.heap.size w w':=by
 obtain⟨i0,hi0,hz0,hz1,hz2⟩:=info_parts zeq
 obtain⟨j0,hj0,hy0,hy1,hy2⟩:=info_parts zgr
 obtain⟨g,off,rfl,hg,hcg⟩:=zes ha (by cases es with | nil=>simp at h2 | cons _ _=>simp)
 have HB:Hid (∀ W,Below w.heap.size w W→zt W b (es.map (·.2))):=fun W hW=>zay hb hW
 have HCG:Hid (∀ j (h:j<es.length),w.cell? ⟨g,off+j,none⟩=some (.string ⟨es[j].1.toArray⟩)):=fun j h=>by have:=hcg j (by simpa using h);simpa using this
 have HCM:Hid (∀ j (h:j<es.length),zo es≤es[j].1.length):=fun j h=>zgv es _ (List.getElem_mem h)
 have HS1:Hid (∀ j (h:j<es.length),es[j].1.length≤24):=fun j h=>(hsm _ (List.getElem_mem h)).1
 have HBL:Hid (zk (f+1) es=zk f (cutE (zo es) es) ++ [zbi (zee ((zb2 es).take (zo es)) (za0 (zk f (cutE (zo es) es))))]):=zir f es h2 hc
 have HK1:Hid (Calls Tryz.prog 164 #[.slice (some ⟨g,off,none⟩) es.length ca] w fun e w'=>e=.returned (.int .i64 ((zo es:Nat):Int))∧Below w.heap.size w w'):=zqt es (some ⟨g,off,none⟩) ca w (by omega) hl hsm ha
 have HIH:Hid (∀ a' ca' W,zt W a' ((cutE (zo es) es).map (·.1))→zt W b (es.map (·.2))→Calls Tryz.prog 129 #[.slice a' es.length ca',.slice b es.length cb] W fun e w'=>∃ g c:Nat,e=.returned (.slice (some ⟨g,0,none⟩) (zk f (cutE (zo es) es)).length c)∧w'.ownsRow W.heap.size 59 2 (.slice (some ⟨g,0,none⟩) (zk f (cutE (zo es) es)).length c) (zk f (cutE (zo es) es)).length (zb (zk f (cutE (zo es) es)))∧Below W.heap.size W w'):=by
  intro a' ca' W k1 k2
  have:=IH (cutE (zo es) es) a' b ca' cb W (by intro e;have h9:=zex (zo es) es;rw[e,List.length_nil] at h9;omega) (by rw[zex];exact hl) (zgw hf hc) (fun e he=>by
   obtain⟨x,hx,rfl⟩:=List.mem_map.1 he
   have:=hsm x hx
   exact⟨by simp only[List.length_drop];omega,this.2⟩) k1 (by rw[za1q];exact k2)
  rw[zex] at this
  exact this
 have HHD:Hid (∃ h:0<es.length,zb2 es=es[0].1):=by
  match es,h2 with
  | e :: es',_=>exact⟨by simp,rfl⟩
 have HCT:Hid (∀ j (h:j<es.length),((cutE (zo es) es).map (·.1)).take (j+1)=((cutE (zo es) es).map (·.1)).take j ++ [es[j].1.drop (zo es)]):=fun j h=>by
  rw[List.take_succ_eq_append_getElem (by simpa [cutE] using h)];simp[cutE]
 have HCL:Hid (((cutE (zo es) es).map (·.1)).length=es.length):=by rw[Hid];simp[cutE]
 obtain⟨N,hN⟩:∃ N,N=zk f (cutE (zo es) es):=⟨_,rfl⟩
 rw[←hN] at HBL HIH hr hne hbl
 obtain⟨cs,hcs⟩:∃ cs,cs=(cutE (zo es) es).map (·.1):=⟨_,rfl⟩
 rw[←hcs] at HIH HCT HCL
 obtain⟨n,hn⟩:∃ n,n=zo es:=⟨_,rfl⟩
 rw[←hn] at HBL HK1 hc HCM HCT
 clear hN hcs hn ha hb hcg hf hsm IH
 go_enter Tryz.func129,Tryz.ntmps129
 have hl1:¬ (es.length:Int)=1:=by omega
 have hn0:(0:Int)<(n:Int):=by omega
 go_wp2_with fail
 refine HK1.out.mono ?_
 rintro e w1 ⟨rfl,b1⟩
 have B1a:Below w.heap.size w (w1.alloc (.cells #[] 9)):=b1.alloc b1.size _
 have s1:=b1.size
 clear HK1
 go_wp2
 go_loopw [7,8] (fun o i wr=>∃ (j g1 c1:Nat),j≤es.length∧i=.int .i64 (j:Int)∧o=.slice (some ⟨g1,0,none⟩) j c1∧wr.ownsRow w.heap.size 9 1 (.slice (some ⟨g1,0,none⟩) j c1) j (zh (cs.take j))∧Below w.heap.size w wr) (fun _ i _=>es.length - (intOf i).toNat)
 case atStart=>exact⟨0,w1.heap.size,0,Nat.zero_le _,rfl,rfl,World.ownsRow_lit w1 #[] 0 s1 (Nat.zero_le _) rfl,B1a⟩
 case round =>
  obtain⟨j,g1,c1,hj,rfl,rfl,hown,hbel⟩:=hrel
  have hsz:=hbel.size
  by_cases hlt:j<es.length
  · have cj:=(hbel.cell (p:=⟨g,off+j,none⟩) hg).trans (HCG.out j hlt)
    have hnj:=HCM.out j hlt
    have hpl:=HS1.out j hlt
    have HX:Hid (cs.take (j+1)=cs.take j ++ [es[j].1.drop n]):=HCT.out j hlt
    obtain⟨p,hp⟩:∃ p,p=es[j].1:=⟨_,rfl⟩
    rw[←hp] at cj hnj HX hpl
    have hj1:(j:Int)<(es.length:Int):=by omega
    have hj0':(0:Int)≤(j:Int):=by omega
    have hnp:(n:Int)≤(p.length:Int):=by omega
    have OR:=zc hown
    have hbg:=(hown.lt g1 rfl).1
    clear hp hown
    have hex:=zbg p n (by omega)
    obtain⟨y,hy⟩:∃ y,y=p.drop n:=⟨_,rfl⟩
    rw[←hy] at hex HX
    clear hy
    go_wp2_with (at_builtin;refine wpList_append_lies _ rfl _ _ 138 rfl w.heap.size 9 j0 (.string ⟨#[]⟩) 1 16 Tryz.underlying138 hj0 hy0 hy1 hy2 rfl (by decide) (.slice (some ⟨g1,0,none⟩) j c1) j _ rfl (OR.out.alloc _) ⟨wr.heap.size,0,none⟩ 1 1 [.string ⟨y.toArray⟩] rfl rfl (World.news_of_block (cs:=#[.string ⟨y.toArray⟩]) (t:=9) (fr:=(0,0)) (heap_alloc_new wr _)) (by simp[Value.oneCell']) (by omega) (by unfold maxLen;omega) (by omega) (by simp;omega) (wr.heap.size+1) (by simp) ?_;intro g4 cap4 w4 hown4 hgrow4 hat4 hlt4)
    have B4:Below w.heap.size w w4:=(hbel.alloc hsz _).grown hgrow4 (by simp;omega) (fun q hq=>by simp[Value.ownBlock] at hq;omega)
    have H4:Hid (w4.ownsRow w.heap.size 9 1 (.slice (some ⟨g4,0,none⟩) (j+1) cap4) (j+1) (zh (cs.take (j+1)))):=by rw[Hid,HX.out,zc0];exact hown4
    clear hown4 hgrow4 hat4 OR HX cj
    go_wp2
    go_roundw
    case rel=>exact⟨j+1,g4,cap4,by omega,by go_num,rfl,H4.out,B4⟩
    case measure=>simp[intOf];omega
  · obtain rfl:j=es.length:=by omega
    have hj1:¬ (es.length:Int)<(es.length:Int):=by omega
    have hcl:=HCL.out
    rw[←hcl,List.take_length,hcl] at hown
    have I9:=zgq hown
    have KI:=HIH.out (some ⟨g1,0,none⟩) c1 wr I9 (HB.out wr hbel)
    clear hown I9 HIH HB HCL hcl HCT
    go_wp2_with fail
    refine KI.mono ?_
    rintro e w2 ⟨g2,c2,rfl,o2,b2⟩
    have B2:=hbel.trans (b2.mono hsz)
    have s2:=B2.size
    obtain⟨h0,hh⟩:=HHD.out
    have z0:w2.cell? ⟨g,off,none⟩=some (.string ⟨(zb2 es).toArray⟩):=by rw[hh];have:=(B2.cell (p:=⟨g,off+0,none⟩) hg).trans (HCG.out 0 h0);simpa using this
    have z1:=zqs o2 hne
    have hg2:=zci o2
    have hhl:(zb2 es).length≤24:=by rw[hh];exact HS1.out 0 h0
    have hhn:n≤(zb2 es).length:=by rw[hh];exact HCM.out 0 h0
    obtain⟨k,hk⟩:∃ k,N.length=k+1:=⟨N.length - 1,by omega⟩
    rw[show N.length - 1=k by omega] at z1
    obtain⟨m,hm⟩:∃ m,m=N.length:=⟨_,rfl⟩
    rw[←hm] at o2 hbl hne hk ⊢
    have HT:Hid (zk (f+1) es=N ++ [zbi (zee ((zb2 es).take n) (za0 N))]):=HBL.out
    have hpl:((zb2 es).take n).length≤24:=by rw[List.length_take];omega
    have hll:=zqr ((zb2 es).take n) (za0 N) hpl hr
    have hex:=zdf (zb2 es) n hhn
    obtain⟨p,hp⟩:∃ p,p=zb2 es:=⟨_,rfl⟩
    rw[←hp] at z0 hhl hhn HT hpl hll hex
    obtain⟨hx,hhx⟩:∃ hx,hx=za0 N:=⟨_,rfl⟩
    rw[←hhx] at z1 hr HT hll
    obtain⟨q,hq⟩:∃ q,q=p.take n:=⟨_,rfl⟩
    rw[←hq] at HT hpl hll hex
    have KP:=zif q false w2.drew hpl
    have hxl:=ze1 q false
    have HTT:Hid (zee q hx=za8 [pack (za7 q false),hx]):=rfl
    obtain⟨x,hx2⟩:∃ x,x=pack (za7 q false):=⟨_,rfl⟩
    rw[←hx2] at KP hxl HTT
    have HKL:Hid (∀ W r,W.ownsRow w.heap.size 9 1 (.slice (some ⟨r,0,none⟩) 2 2) 2 (zh [x,hx])→Calls Tryz.prog 159 #[.slice (some ⟨r,0,none⟩) 2 2] W fun e w'=>e=.returned (.string ⟨(za8 [x,hx]).toArray⟩)∧Below W.heap.size W w'):=fun W r ho=>zfn r 2 [x,hx] _ W (by simp;omega) (by simp) ho
    rw[←HTT.out] at HKL
    obtain⟨t,ht⟩:∃ t,t=zee q hx:=⟨_,rfl⟩
    rw[←ht] at HKL hll HT
    have KS:=fun W=>zfm t W (by omega)
    rw[show zbi t=(sumL t,t) from rfl] at HT
    obtain⟨s,hs⟩:∃ s,s=sumL t:=⟨_,rfl⟩
    rw[←hs] at KS HT
    have O2:=zc (o2.mono hsz)
    have HN0:Hid (N.length=m):=hm.symm
    have i0':(0:Int)≤(k:Int):=by omega
    have i1:(k:Int)<(m:Int):=by omega
    have i2:(m:Int) - 1=(k:Int):=by omega
    have i3:(k:Int)≤100000:=by omega
    have i4:k<m:=by omega
    have hpos:0<es.length:=by omega
    have hpos':(0:Int)<(es.length:Int):=by omega
    have i5:IntKind.i64.wrap (k:Int)=(k:Int):=zag _ (by omega) (by omega)
    have hnp:(n:Int)≤(p.length:Int):=by omega
    clear hx2 HTT ht hs hp hhx hq HHD hh HCG HCM HS1 HBL o2 hk h0 hm
    go_wp2_with fail
    have SX:Hid (w2.cell? ⟨g,off,none⟩=some (.string ⟨p.toArray⟩)∧w2.cell? ⟨g2,k*2,none⟩=some (.string ⟨hx.toArray⟩)):=⟨z0,z1⟩
    have hgw:g<w2.heap.size:=by omega
    go_region_held3 (fun w'=>w'.cell? ⟨g,off,none⟩=some (.string ⟨p.toArray⟩)∧w'.cell? ⟨g2,k*2,none⟩=some (.string ⟨hx.toArray⟩))
     (first | exact S2.out | exact S1a.out | exact S1.out | exact SX.out)
     (first
      | (go_at_call 159
         with_reducible refine (HKL.out _ _ O1.out).mono ?_
         rintro e w4 ⟨rfl,b4⟩
         have C4:Hid (Below w2.heap.size w2 w4):=B1a.out.trans (b4.mono B1a.out.size)
         have S2:Hid (w4.cell? ⟨g,off,none⟩=some (.string ⟨p.toArray⟩)∧w4.cell? ⟨g2,k*2,none⟩=some (.string ⟨hx.toArray⟩)):=⟨(C4.out.cell (p:=⟨g,off,none⟩) hgw).trans SX.out.1,(C4.out.cell (p:=⟨g2,k*2,none⟩) hg2).trans SX.out.2⟩
         clear b4)
      | (go_at_call 160
         with_reducible refine KP.mono ?_
         rintro e w3 ⟨rfl,b1'⟩
         have b1:Below w2.heap.size w2 w3:=zcp b1'
         have S1:Hid (w3.cell? ⟨g,off,none⟩=some (.string ⟨p.toArray⟩)∧w3.cell? ⟨g2,k*2,none⟩=some (.string ⟨hx.toArray⟩)):=⟨(b1.cell (p:=⟨g,off,none⟩) hgw).trans SX.out.1,(b1.cell (p:=⟨g2,k*2,none⟩) hg2).trans SX.out.2⟩
         have B1a:Hid (Below w2.heap.size w2 (w3.alloc (.cells #[.string ⟨x.toArray⟩,.string ⟨hx.toArray⟩] 9))):=b1.alloc b1.size _
         have S1a:Hid ((w3.alloc (.cells #[.string ⟨x.toArray⟩,.string ⟨hx.toArray⟩] 9)).cell? ⟨g,off,none⟩=some (.string ⟨p.toArray⟩)∧(w3.alloc (.cells #[.string ⟨x.toArray⟩,.string ⟨hx.toArray⟩] 9)).cell? ⟨g2,k*2,none⟩=some (.string ⟨hx.toArray⟩)):=⟨(B1a.out.cell (p:=⟨g,off,none⟩) hgw).trans SX.out.1,(B1a.out.cell (p:=⟨g2,k*2,none⟩) hg2).trans SX.out.2⟩
         have O1:=zc (zih w3 x hx w.heap.size (Nat.le_trans s2 b1.size))
         clear b1 b1'))
    all_goals
     go_wp2_with fail
     refine (KS _).mono ?_
     rintro e w5 ⟨rfl,b5⟩
     have C5:Hid (Below w2.heap.size w2 w5):=C4.out.trans (b5.mono C4.out.size)
     have O5:=zc (zan O2.out C5.out)
     have B5:=B2.trans (C5.out.mono s2)
     have s5:=B5.size
     have hg2l:=(O5.out.lt g2 rfl).1
     clear b5
     go_wp2_with (at_builtin;refine wpList_append_lies _ rfl _ _ 31 rfl w.heap.size 59 i0 (.agg #[.string ⟨#[]⟩,.string ⟨#[]⟩]) 2 32 Tryz.underlying31 hi0 hz0 hz1 hz2 rfl (by decide) (.slice (some ⟨g2,0,none⟩) m c2) m _ rfl (O5.out.alloc _) ⟨w5.heap.size,0,none⟩ 1 1 [.string ⟨s.toArray⟩,.string ⟨t.toArray⟩] rfl rfl (World.news_of_block (cs:=#[.string ⟨s.toArray⟩,.string ⟨t.toArray⟩]) (t:=59) (fr:=(0,0)) (heap_alloc_new w5 _)) (by simp[Value.oneCell']) (by omega) (by unfold maxLen;omega) (by omega) (by simp;omega) (w5.heap.size+1) (by simp) ?_;intro g7 cap7 w7 hown7 hgrow7 hat7 hlt7)
     have B7:Below w.heap.size w w7:=(B5.alloc s5 _).grown hgrow7 (by simp;omega) (fun q hq=>by simp[Value.ownBlock] at hq;omega)
     have H7:Hid (w7.ownsRow w.heap.size 59 2 (.slice (some ⟨g7,0,none⟩) (zk (f+1) es).length cap7) (zk (f+1) es).length (zb (zk (f+1) es))):=by
      have e1:(zk (f+1) es).length=m+1:=by rw[HT.out,List.length_append,HN0.out];rfl
      rw[Hid,e1,HT.out,zc2];exact hown7
     have HL7:Hid (m+1=(zk (f+1) es).length):=by rw[Hid,HT.out,List.length_append,HN0.out];rfl
     clear hown7 hgrow7 hat7
     rw[HL7.out]
     go_wp2
     go_ret
     exact⟨_,_,rfl,H7.out,B7⟩
def za6 (f:Nat) (es:List za) (d:Nat):List za:=((List.range d).map fun d=>zk f (grp d es)).flatten
def zak (f:Nat) (es:List za) (d:Nat):List (List UInt8):=(List.range d).map fun d=>za0 (zk f (grp d es))
theorem zqu (f:Nat) (es:List za) (d:Nat):za6 f es (d+1)=za6 f es d ++ zk f (grp d es):=by simp[za6,List.range_succ]
theorem zqv (f:Nat) (es:List za) (d:Nat):zak f es (d+1)=zak f es d ++ [za0 (zk f (grp d es))]:=by simp[zak,List.range_succ]
theorem zl2 (f:Nat) (es:List za) (d:Nat):(zak f es d).length=d:=by simp[zak]
theorem zqw {d:Nat} {es:List za} (h:zcz es):zcz (grp d es):=by
 intro e he
 obtain⟨x,hx,he⟩:=List.mem_filterMap.1 he
 have h1:=h x hx
 unfold grp1 at he
 split at he
 · cases he
 · rename_i y ys hy
   split at he
   · cases he
     rw[hy] at h1
     simp at h1
     exact⟨by simp only;omega,h1.2⟩
   · cases he
theorem pone (qs:List za):∀ u∈zb qs,u.oneCell'=true:=by
 induction qs with
 | nil=>simp[zb]
 | cons p ps ih=>simp[zb,Value.oneCell'];exact ih
theorem zl3 {w:World} {B e g m c:Nat} {ns:List za} (hm:ns.length=m) (h:w.ownsRow B e 2 (.slice (some ⟨g,0,none⟩) m c) m (zb ns)):∀ j u,(zb ns)[j]? = some u→w.cell? ((⟨g,0,none⟩:Addr).add j)=some u:=by
 intro j u hu
 have hj:=(List.getElem?_eq_some_iff.1 hu).1
 rw[zbu,hm] at hj
 have ea:(⟨g,0,none⟩:Addr).add j=⟨g,j,none⟩:=by
  simp only[Addr.add]
  split
  · rename_i h9;rw[h9]
  · simp
 rw[ea]
 rcases h.2 with ⟨h',_⟩ | ⟨g',cap',cur,h',_⟩
 · cases h'
 · cases h'
   rw[h.cellAt j hj,hu]
theorem zl4 (es:List za) (h:∀ j (h:j<es.length),es[j].2.length≤60):∀ j,j≤es.length→(endV (es.take j)).length≤60
 | 0,_=>by simp[endV]
 | j + 1, hj => by
   rw[ziu es j (by omega)]
   split
   · exact h j (by omega)
   · exact zl4 es h j (by omega)
theorem zl5 (f:Nat) (es:List za):∀ d,(∀ d,(za0 (zk f (grp d es))).length≤32)→(zak f es d).flatten.length≤32*d
 | 0,_=>by simp[zak]
 | d + 1, h => by
   have:=zl5 f es d h
   have h2:=h d
   have e : [za0 (zk f (grp d es))].flatten=za0 (zk f (grp d es)):=by simp
   rw[zqv,List.flatten_append,List.length_append,e]
   omega
theorem zdm {w w':World} {b e sz n:Nat} {v:Value} {xs:List Value} {row:Option Nat} (h:w.ownsRow b e sz v n xs) (g:w.grownBy w' row) (hne:∀ k,v.ownBlock=some k→row≠some k):w'.ownsRow b e sz v n xs :=
 h.kept g (by
  cases hv:v.ownBlock with
  | none=>exact .inl rfl
  | some q=>exact .inr (fun e=>hne q hv e.symm))
theorem zl6 (w:World) (o:Obj) (base:Nat) (hb:base≤w.heap.size):((w.alloc o).alloc (.cells #[] 9)).ownsRow base 9 1 (.slice (some ⟨w.heap.size+1,0,none⟩) 0 0) 0 []:=by
 have:=World.ownsRow_lit (e:=9) (size:=1) (w.alloc o) #[] 0 (base:=base) (by simp;omega) (Nat.zero_le _) rfl
 simpa using this
theorem za1s (f : Nat) (IH : zl1 f) (es : List za) (a b : Option Addr) (ca cb : Nat) (w : World) (h2 : 2 ≤ es.length) (hl : es.length ≤ 60) (hf : Fits (f + 1) es) (hsm : zcz es) (hc : ¬ 0 < zo es) (hr : ∀ d, (za0 (zk f (grp d es))).length ≤ 32) (hne : ∀ d, grp d es ≠ [] → 0 < (zk f (grp d es)).length) (hbl : ∀ d, d ≤ 16 → (za6 f es d).length ≤ 10000) (ha : zt w a (es.map (·.1))) (hb : zt w b (es.map (·.2))) :
 Calls Tryz.prog 129 #[.slice a es.length ca,.slice b es.length cb] w fun r w'=>∃ g c:Nat,r=.returned (.slice (some ⟨g,0,none⟩) (zk (f+1) es).length c)∧w'.ownsRow w.heap.size 59 2 (.slice (some ⟨g,0,none⟩) (zk (f+1) es).length c) (zk (f+1) es).length (zb (zk (f+1) es))∧Below w.heap.size w w':=by
 obtain⟨i0,hi0,hz0,hz1,hz2⟩:=info_parts zeq
 obtain⟨j0,hj0,hy0,hy1,hy2⟩:=info_parts zgr
 have hes:es≠[]:=fun e=>by rw[e] at h2;simp at h2
 obtain⟨g,off,rfl,hg,hcg⟩:=zes ha (by simpa using hes)
 obtain⟨q,of2,rfl,hq,hcq⟩:=zes hb (by simpa using hes)
 have HCG:Hid (∀ j (h:j<es.length),w.cell? ⟨g,off+j,none⟩=some (.string ⟨es[j].1.toArray⟩)):=fun j h=>by have:=hcg j (by simpa using h);simpa using this
 have HCQ:Hid (∀ j (h:j<es.length),w.cell? ⟨q,of2+j,none⟩=some (.string ⟨es[j].2.toArray⟩)):=fun j h=>by have:=hcq j (by simpa using h);simpa using this
 have HS1:Hid (∀ j (h:j<es.length),es[j].1.length≤24∧es[j].2.length≤60):=fun j h=>hsm _ (List.getElem_mem h)
 have HBL:Hid (zk (f+1) es=za6 f es 16 ++ [zbi (zew (zak f es 16) (endV es))]):=zgt f es h2 hc
 have HK1:Hid (Calls Tryz.prog 164 #[.slice (some ⟨g,off,none⟩) es.length ca] w fun e w'=>e=.returned (.int .i64 ((zo es:Nat):Int))∧Below w.heap.size w w'):=zqt es (some ⟨g,off,none⟩) ca w (by omega) hl hsm ha
 have hc0:zo es=0:=by omega
 rw[hc0] at HK1
 have HIH:Hid (∀ d a' b' ca' cb' W,grp d es≠[]→zt W a' ((grp d es).map (·.1))→zt W b' ((grp d es).map (·.2))→Calls Tryz.prog 129 #[.slice a' (grp d es).length ca',.slice b' (grp d es).length cb'] W fun e w'=>∃ g c:Nat,e=.returned (.slice (some ⟨g,0,none⟩) (zk f (grp d es)).length c)∧w'.ownsRow W.heap.size 59 2 (.slice (some ⟨g,0,none⟩) (zk f (grp d es)).length c) (zk f (grp d es)).length (zb (zk f (grp d es)))∧Below W.heap.size W w'):=fun d a' b' ca' cb' W h0 k1 k2=>IH (grp d es) a' b' ca' cb' W h0 (Nat.le_trans (zs2 d es) hl) (zis hf) (zqw hsm) k1 k2
 have HR:Hid ((∀ d,(za0 (zk f (grp d es))).length≤32)∧(∀ d,grp d es≠[]→0<(zk f (grp d es)).length)∧∀ d,d≤16→(za6 f es d).length≤10000):=⟨hr,hne,hbl⟩
 have HGL:Hid (∀ d j,(grp d (es.take j)).length≤j):=fun d j=>by have:=zs2 d (es.take j);rw[List.length_take] at this;omega
 have hl1:¬ (es.length:Int)=1:=by omega
 clear ha hb hcg hcq hf hsm IH hc hc0 hr hne hbl hes
 go_enter Tryz.func129,Tryz.ntmps129
 go_wp2_with fail
 refine HK1.out.mono ?_
 rintro e w1 ⟨rfl,b1⟩
 have s1:=b1.size
 have B1b:Below w.heap.size w ((w1.alloc (.cells #[] 59)).alloc (.cells #[] 9)):=(b1.alloc s1 _).alloc (by simp;omega) _
 clear HK1
 go_wp2
 go_loopw [11,12,13] (fun o pa i wr=>∃ (d go co gp cp:Nat),d≤16∧i=.int .i64 (d:Int)∧o=.slice (some ⟨go,0,none⟩) (za6 f es d).length co∧pa=.slice (some ⟨gp,0,none⟩) d cp∧go≠gp∧Hid (wr.ownsRow w.heap.size 59 2 (.slice (some ⟨go,0,none⟩) (za6 f es d).length co) (za6 f es d).length (zb (za6 f es d)))∧Hid (wr.ownsRow w.heap.size 9 1 (.slice (some ⟨gp,0,none⟩) d cp) d (zh (zak f es d)))∧Below w.heap.size w wr) (fun _ _ i _=>16 - (intOf i).toNat)
 case atStart=>exact⟨0,w1.heap.size,0,w1.heap.size+1,0,by omega,rfl,rfl,by simp,by omega,by have:=World.ownsRow_lit (e:=59) (size:=2) w1 #[] 0 s1 (Nat.zero_le _) rfl;exact this.alloc _,zl6 w1 _ w.heap.size s1,B1b⟩
 case round =>
  obtain⟨d,go,co,gp,cp,hd,rfl,rfl,rfl,hgne,HO,HP,hbel⟩:=hrel
  obtain⟨wo,rfl⟩:∃ wo,wo=wr:=⟨_,rfl⟩
  have hsz:=hbel.size
  clear B1b
  by_cases hlt:d<16
  · have hd1 : (d : Int) < 16 := by omega
    have Bw:Below wo.heap.size wo ((wo.alloc (.cells #[] 9)).alloc (.cells #[] 9)):=((Below.refl _ _).alloc (Nat.le_refl _) _).alloc (by simp) _
    go_wp2
    go_loopw [14,15,16] (fun pp vv i wx=>∃ (j g1 c1 g2 c2:Nat),j≤es.length∧i=.int .i64 (j:Int)∧pp=.slice (some ⟨g1,0,none⟩) (grp d (es.take j)).length c1∧vv=.slice (some ⟨g2,0,none⟩) (grp d (es.take j)).length c2∧g1≠g2∧Hid (wx.ownsRow wo.heap.size 9 1 (.slice (some ⟨g1,0,none⟩) (grp d (es.take j)).length c1) (grp d (es.take j)).length (zh ((grp d (es.take j)).map (·.1))))∧Hid (wx.ownsRow wo.heap.size 9 1 (.slice (some ⟨g2,0,none⟩) (grp d (es.take j)).length c2) (grp d (es.take j)).length (zh ((grp d (es.take j)).map (·.2))))∧Below wo.heap.size wo wx) (fun _ _ i _=>es.length - (intOf i).toNat)
    case atStart=>exact⟨0,wo.heap.size,0,wo.heap.size+1,0,by omega,rfl,rfl,by simp;rfl,by omega,by have:=World.ownsRow_lit (e:=9) (size:=1) wo #[] 0 (Nat.le_refl _) (Nat.zero_le _) rfl;exact this.alloc _,zl6 wo _ wo.heap.size (Nat.le_refl _),Bw⟩
    case round =>
     obtain⟨j,g1,c1,g2,c2,hj,rfl,rfl,rfl,hg12,H1,H2,hb2⟩:=hrel
     have hsz2:=hb2.size
     have B2:=hbel.trans (hb2.mono hsz)
     clear Bw
     by_cases hlt2:j<es.length
     · have cj := (B2.cell (p := ⟨g, off + j, none⟩) hg).trans (HCG.out j hlt2)
       have cq:=(B2.cell (p:=⟨q,of2+j,none⟩) hq).trans (HCQ.out j hlt2)
       have HX:=za46 d es j hlt2
       have hml:=HS1.out j hlt2
       have hgl:=HGL.out d j
       have hj1:(j:Int)<(es.length:Int):=by omega
       have hj0':(0:Int)≤(j:Int):=by omega
       obtain⟨e,hev⟩:∃ e,e=es[j]:=⟨_,rfl⟩
       rw[←hev] at cj cq HX hml
       obtain⟨p,v⟩:=e
       simp only at cj cq hml
       by_cases hpe:p=[]
       · have HX2:Hid (grp d (es.take (j+1))=grp d (es.take j)):=by rw[Hid,HX,hpe];simp[grp1]
         have hpe':p.isEmpty=true:=by rw[hpe];rfl
         clear HX hev
         subst hpe
         go_wp2
         go_roundw
         case rel=>exact⟨j+1,g1,c1,g2,c2,by omega,by go_num,by rw[HX2.out],by rw[HX2.out],hg12,by rw[HX2.out];exact H1,by rw[HX2.out];exact H2,hb2⟩
         case measure=>simp[intOf];omega
       · obtain⟨x,xs,hpx⟩:∃ x xs,p=x :: xs:=by cases p with | nil=>exact absurd rfl hpe | cons x xs=>exact⟨x,xs,rfl⟩
         have hpe':p.isEmpty=false:=by rw[hpx];rfl
         have hpl:0<p.length:=by rw[hpx];simp
         have hpl':(0:Int)<(p.length:Int):=by omega
         have hps:0<(ByteArray.mk p.toArray).size:=by simpa [ByteArray.size] using hpl
         have hb0:(((ByteArray.mk p.toArray)[0]'hps).toNat:Int)=(x.toNat:Int):=by subst hpx;rfl
         have hxl:=x.toNat_lt
         by_cases hx:x.toNat=d
         · have HX2:Hid (grp d (es.take (j+1))=grp d (es.take j) ++ [(xs,v)]):=by rw[Hid,HX,hpx];simp[grp1,hx]
           have hex:=zbg p 1 (by omega)
           have hdr:p.drop 1=xs:=by rw[hpx];rfl
           rw[hdr] at hex
           have hxd:(x.toNat:Int)=(d:Int):=by omega
           have hex':(1:Int)≤(p.length:Int):=by omega
           rw[hxd] at hb0
           clear HX hev hpx hdr hx hpe
           have CQ:Hid (w.cell? ⟨q,of2+j,none⟩=some (.string ⟨v.toArray⟩)):=(B2.cell (p:=⟨q,of2+j,none⟩) hq).symm.trans cq
           have hg1l:=(H1.out.lt g1 rfl)
           have hg2l:=(H2.out.lt g2 rfl)
           go_wp2_with (first | (at_builtin;refine wpList_append_lies _ rfl _ _ 138 rfl wo.heap.size 9 j0 (.string ⟨#[]⟩) 1 16 Tryz.underlying138 hj0 hy0 hy1 hy2 rfl (by decide) (.slice (some ⟨g2,0,none⟩) (grp d (es.take j)).length c2) (grp d (es.take j)).length _ rfl (HV4.out.alloc _) ⟨w4.heap.size,0,none⟩ 1 1 [.string ⟨v.toArray⟩] rfl rfl (World.news_of_block (cs:=#[.string ⟨v.toArray⟩]) (t:=9) (fr:=(0,0)) (heap_alloc_new w4 _)) (by simp[Value.oneCell']) (by omega) (by unfold maxLen;omega) (by omega) (by simp;omega) (w4.heap.size+1) (by simp) ?_;intro g5 cap5 w5 hown5 hgrow5 hat5 hlt5) | (at_builtin;refine wpList_append_lies _ rfl _ _ 138 rfl wo.heap.size 9 j0 (.string ⟨#[]⟩) 1 16 Tryz.underlying138 hj0 hy0 hy1 hy2 rfl (by decide) (.slice (some ⟨g1,0,none⟩) (grp d (es.take j)).length c1) (grp d (es.take j)).length _ rfl (H1.out.alloc _) ⟨wr.heap.size,0,none⟩ 1 1 [.string ⟨xs.toArray⟩] rfl rfl (World.news_of_block (cs:=#[.string ⟨xs.toArray⟩]) (t:=9) (fr:=(0,0)) (heap_alloc_new wr _)) (by simp[Value.oneCell']) (by omega) (by unfold maxLen;omega) (by omega) (by simp;omega) (wr.heap.size+1) (by simp) ?_;intro g4 cap4 w4 hown4 hgrow4 hat4 hlt4;have B4:Below wo.heap.size wo w4:=(hb2.alloc hsz2 _).grown hgrow4 (by simp;omega) (fun k hk=>by simp[Value.ownBlock] at hk;omega);have s4:=B4.size;have HV4:=zc (zdm (H2.out.alloc _) hgrow4 (fun k hk e=>by simp[Value.ownBlock] at hk e;omega));have HQ4:=zc hown4;have s24:=hgrow4.size;have cq4:=((hbel.trans (B4.mono hsz)).cell (p:=⟨q,of2+j,none⟩) hq).trans (CQ.out);clear hown4 hgrow4 cj cq))
           have hg45:g4≠g5:=by
            simp only[Value.ownBlock,Option.some.injEq] at hat4 hat5
            rcases hat5 with h5 | h5
            · rcases hat4 with h4 | h4
              · omega
              · omega
            · omega
           have hg42:g4≠g2:=by
            simp only[Value.ownBlock,Option.some.injEq] at hat4
            rcases hat4 with h4 | h4
            · omega
            · omega
           have B5:Below wo.heap.size wo w5:=(B4.alloc s4 _).grown hgrow5 (by simp;omega) (fun k hk=>by simp[Value.ownBlock] at hk;omega)
           have H4:Hid (w5.ownsRow wo.heap.size 9 1 (.slice (some ⟨g4,0,none⟩) ((grp d (es.take j)).length+1) cap4) (grp d (es.take (j+1))).length (zh ((grp d (es.take (j+1))).map (·.1)))):=by
            rw[Hid,HX2.out,List.map_append,List.length_append]
            have e1:zh ((grp d (es.take j)).map (·.1) ++ [(xs,v)].map (·.1))=zh ((grp d (es.take j)).map (·.1)) ++ [.string ⟨xs.toArray⟩]:=zc0 _ _
            rw[e1]
            exact zdm (HQ4.out.alloc _) hgrow5 (fun k hk e=>by simp[Value.ownBlock] at hk e;omega)
           have H5:Hid (w5.ownsRow wo.heap.size 9 1 (.slice (some ⟨g5,0,none⟩) ((grp d (es.take j)).length+1) cap5) (grp d (es.take (j+1))).length (zh ((grp d (es.take (j+1))).map (·.2)))):=by
            rw[Hid,HX2.out,List.map_append,List.length_append]
            have e1:zh ((grp d (es.take j)).map (·.2) ++ [(xs,v)].map (·.2))=zh ((grp d (es.take j)).map (·.2)) ++ [.string ⟨v.toArray⟩]:=zc0 _ _
            rw[e1]
            exact hown5
           have HLX:Hid ((grp d (es.take j)).length+1=(grp d (es.take (j+1))).length):=by rw[Hid,HX2.out,List.length_append];rfl
           clear hown5 hgrow5 hat5 hat4 HQ4 HV4 H1 H2 HX2
           rw[HLX.out] at H4 H5
           rw[HLX.out]
           go_wp2
           go_roundw
           case rel=>exact⟨j+1,g4,cap4,g5,cap5,by omega,by go_num,rfl,rfl,hg45,H4,H5,B5⟩
           case measure=>simp[intOf];omega
         · have HX2:Hid (grp d (es.take (j+1))=grp d (es.take j)):=by rw[Hid,HX,hpx];simp[grp1,hx]
           have hxd:((x.toNat:Int) == (d:Int))=false:=by simp only[beq_eq_false_iff_ne,ne_eq];omega
           clear HX hev hpx hpe
           go_wp2
           go_roundw
           case rel=>exact⟨j+1,g1,c1,g2,c2,by omega,by go_num,by rw[HX2.out],by rw[HX2.out],hg12,by rw[HX2.out];exact H1,by rw[HX2.out];exact H2,hb2⟩
           case measure=>simp[intOf];omega
     · obtain rfl:j=es.length:=by omega
       rw[List.take_length] at H1 H2 ⊢
       have hj1:¬ (es.length:Int)<(es.length:Int):=by omega
       have HP2:=zc (zan HP.out hb2)
       have HO2:=zc (zan HO.out hb2)
       have hgol:=(HO2.out.lt go rfl)
       have hgpl:=(HP2.out.lt gp rfl)
       have HKS:Hid (za6 f es (d+1)=za6 f es d ++ zk f (grp d es)∧zak f es (d+1)=zak f es d ++ [za0 (zk f (grp d es))]):=⟨zqu f es d,zqv f es d⟩
       have s2:=B2.size
       clear HP HO
       by_cases hge:grp d es=[]
       · have HKE:Hid (za6 f es (d+1)=za6 f es d∧zak f es (d+1)=zak f es d ++ [[]]):=by
          have:=HKS.out
          rw[hge,zgs,za45,List.append_nil] at this
          exact this
         have hl0:(grp d es).length=0:=by rw[hge];rfl
         rw[hl0]
         clear HKS hge hl0 H1 H2
         go_wp2_with (at_builtin;refine wpList_append_lies _ rfl _ _ 138 rfl w.heap.size 9 j0 (.string ⟨#[]⟩) 1 16 Tryz.underlying138 hj0 hy0 hy1 hy2 rfl (by decide) (.slice (some ⟨gp,0,none⟩) d cp) d _ rfl (HP2.out.alloc _) ⟨wr.heap.size,0,none⟩ 1 1 [.string ⟨#[]⟩] rfl rfl (World.news_of_block (cs:=#[.string ⟨#[]⟩]) (t:=9) (fr:=(0,0)) (heap_alloc_new wr _)) (by simp[Value.oneCell']) (by omega) (by unfold maxLen;omega) (by omega) (by simp;omega) (wr.heap.size+1) (by simp) ?_;intro g6 cap6 w6 hown6 hgrow6 hat6 hlt6)
         have B6:Below w.heap.size w w6:=(B2.alloc s2 _).grown hgrow6 (by simp;omega) (fun k hk=>by simp[Value.ownBlock] at hk;omega)
         have hg6:go≠g6:=by
          simp only[Value.ownBlock,Option.some.injEq] at hat6
          rcases hat6 with h | h <;> omega
         have HO6:Hid (w6.ownsRow w.heap.size 59 2 (.slice (some ⟨go,0,none⟩) (za6 f es (d+1)).length co) (za6 f es (d+1)).length (zb (za6 f es (d+1)))):=by
          rw[Hid,HKE.out.1]
          exact zdm (HO2.out.alloc _) hgrow6 (fun k hk e=>by simp[Value.ownBlock] at hk e;omega)
         have HP6:Hid (w6.ownsRow w.heap.size 9 1 (.slice (some ⟨g6,0,none⟩) (d+1) cap6) (d+1) (zh (zak f es (d+1)))):=by
          rw[Hid,HKE.out.2,zc0];exact hown6
         have HE1:Hid ((za6 f es d).length=(za6 f es (d+1)).length):=by rw[Hid,HKE.out.1]
         clear hown6 hgrow6 hat6 HO2 HP2
         rw[HE1.out]
         go_wp2
         go_roundw
         case rel=>exact⟨d+1,go,co,g6,cap6,by omega,by go_num,rfl,rfl,hg6,HO6,HP6,B6⟩
         case measure=>simp[intOf];omega
       · have KI:=HIH.out d (some ⟨g1,0,none⟩) (some ⟨g2,0,none⟩) c1 c2 wr hge (zgq H1.out) (zgq H2.out)
         have hnl:=HR.out.2.1 d hge
         have hrl:=HR.out.1 d
         have hbt:=HR.out.2.2 (d+1) (by omega)
         have hnz:¬ ((grp d es).length:Int)=0:=fun h=>hge (List.length_eq_zero_iff.1 (by omega))
         have hnz':¬ (grp d es).length=0:=fun h=>hge (List.length_eq_zero_iff.1 h)
         obtain⟨N,hN⟩:∃ N,N=zk f (grp d es):=⟨_,rfl⟩
         rw[←hN] at KI HKS hnl hrl
         clear hN hge H1 H2
         go_wp2_with fail
         refine KI.mono ?_
         rintro e w6 ⟨g7,c7,rfl,o7,b6⟩
         have C6:Below w.heap.size w w6:=B2.trans (b6.mono s2)
         have s6:=C6.size
         have sw6:=b6.size
         have HP6:=zc (zan HP2.out b6)
         have HO6:=zc (zan HO2.out b6)
         have z1:=zqs o7 hnl
         have hg7:=zci o7
         have hg7l:=(o7.lt g7 rfl).1
         obtain⟨k,hk⟩:∃ k,N.length=k+1:=⟨N.length - 1,by omega⟩
         rw[show N.length - 1=k by omega] at z1
         have HNL:Hid (za6 f es (d+1)=za6 f es d ++ N∧zak f es (d+1)=zak f es d ++ [za0 N]):=HKS.out
         have HO7:=zc o7
         obtain⟨m,hm⟩:∃ m,m=N.length:=⟨_,rfl⟩
         have hkl:(za6 f es d).length+m≤10000:=by rw[hm];have:=HNL.out.1;rw[this,List.length_append] at hbt;exact hbt
         rw[←hm] at HO7 hnl hk ⊢
         obtain⟨x,hx⟩:∃ x,x=za0 N:=⟨_,rfl⟩
         rw[←hx] at z1 HNL hrl
         have i0':(0:Int)≤(k:Int):=by omega
         have i1:(k:Int)<(m:Int):=by omega
         have i2:(m:Int) - 1=(k:Int):=by omega
         have i3:(k:Int)≤100000:=by omega
         have i4:k<m:=by omega
         have i5:IntKind.i64.wrap (k:Int)=(k:Int):=zag _ (by omega) (by omega)
         have HM:Hid (N.length=m):=hm.symm
         have HA8:Hid (∀ g8 cap8 w8,w8.ownsRow w.heap.size 9 1 (.slice (some ⟨g8,0,none⟩) (d+1) cap8) (d+1) (zh (zak f es d) ++ [.string ⟨x.toArray⟩])→(w6.alloc (.cells #[.string ⟨x.toArray⟩] 9)).grownBy w8 (Value.slice (some ⟨gp,0,none⟩) d cp).ownBlock→((Value.slice (some ⟨gp,0,none⟩) d cp).ownBlock=some g8∨g8=w6.heap.size+1)→g8<w8.heap.size →
          Below w.heap.size w w8∧w.heap.size≤w8.heap.size∧Hid (w8.ownsRow w.heap.size 59 2 (.slice (some ⟨go,0,none⟩) (za6 f es d).length co) (za6 f es d).length (zb (za6 f es d)))∧Hid (∀ i u,(zb N)[i]? = some u→w8.cell? ((⟨g7,0,none⟩:Addr).add i)=some u)∧go≠g8∧g8<w8.heap.size):=by
          intro g8 cap8 w8 _ hg8 hat8 hlt8
          have B8:Below w.heap.size w w8:=(C6.alloc s6 _).grown hg8 (by simp;omega) (fun k hk=>by simp[Value.ownBlock] at hk;omega)
          refine⟨B8,B8.size,?_,?_,?_,hlt8⟩
          · exact zdm (HO6.out.alloc _) hg8 (fun k hk e=>by simp[Value.ownBlock] at hk e;omega)
          · exact zl3 HM.out (zdm (HO7.out.alloc _) hg8 (fun k hk e=>by simp[Value.ownBlock] at hk e;omega))
          · simp only[Value.ownBlock,Option.some.injEq] at hat8
            rcases hat8 with h | h <;> omega
         clear KI HKS o7 hx HP2 HO2 hbt hm HO6 hk
         go_wp2_with (first | (at_builtin;refine wpList_append_lies _ rfl _ _ 31 rfl w.heap.size 59 i0 (.agg #[.string ⟨#[]⟩,.string ⟨#[]⟩]) 2 32 Tryz.underlying31 hi0 hz0 hz1 hz2 rfl (by decide) (.slice (some ⟨go,0,none⟩) (za6 f es d).length co) (za6 f es d).length _ rfl HO8.out ⟨g7,0,none⟩ m c7 (zb N) rfl (by rw[zbu,HM.out]) HF8.out (pone N) hnl (by unfold maxLen;omega) (by omega) s8 w8.heap.size rfl ?_;intro g9 cap9 w9 hown9 hgrow9 hat9 hlt9) | (at_builtin;refine wpList_append_lies _ rfl _ _ 138 rfl w.heap.size 9 j0 (.string ⟨#[]⟩) 1 16 Tryz.underlying138 hj0 hy0 hy1 hy2 rfl (by decide) (.slice (some ⟨gp,0,none⟩) d cp) d _ rfl (HP6.out.alloc _) ⟨w6.heap.size,0,none⟩ 1 1 [.string ⟨x.toArray⟩] rfl rfl (World.news_of_block (cs:=#[.string ⟨x.toArray⟩]) (t:=9) (fr:=(0,0)) (heap_alloc_new w6 _)) (by simp[Value.oneCell']) (by omega) (by unfold maxLen;omega) (by omega) (by simp;omega) (w6.heap.size+1) (by simp) ?_;intro g8 cap8 w8 hown8 hgrow8 hat8 hlt8;obtain⟨B8,s8,HO8,HF8,hgo8,hgp8⟩:=HA8.out g8 cap8 w8 hown8 hgrow8 hat8 hlt8;have HP8:=zc hown8;clear hown8 hgrow8 hat8 z1))
         have B9:Below w.heap.size w w9:=B8.grown hgrow9 s8 (fun k hk=>by simp[Value.ownBlock] at hk;omega)
         have hg98:g9≠g8:=by
          simp only[Value.ownBlock,Option.some.injEq] at hat9
          rcases hat9 with h | h <;> omega
         have HO9:Hid (w9.ownsRow w.heap.size 59 2 (.slice (some ⟨g9,0,none⟩) ((za6 f es d).length+m) cap9) (za6 f es (d+1)).length (zb (za6 f es (d+1)))):=by
          rw[Hid,HNL.out.1,List.length_append,HM.out,zc2];exact hown9
         have HP9:Hid (w9.ownsRow w.heap.size 9 1 (.slice (some ⟨g8,0,none⟩) (d+1) cap8) (d+1) (zh (zak f es (d+1)))):=by
          rw[Hid,HNL.out.2,zc0]
          exact zdm HP8.out hgrow9 (fun k hk e=>by simp[Value.ownBlock] at hk e;omega)
         have HE1:Hid ((za6 f es d).length+m=(za6 f es (d+1)).length):=by rw[Hid,HNL.out.1,List.length_append,HM.out]
         clear hown9 hgrow9 hat9
         rw[HE1.out] at HO9
         rw[HE1.out]
         go_wp2
         go_roundw
         case rel=>exact⟨d+1,g9,cap9,g8,cap8,by omega,by go_num,rfl,rfl,hg98,HO9,HP9,B9⟩
         case measure=>simp[intOf];omega
  · obtain rfl:d=16:=by omega
    have hd1:¬ (16:Int)<16:=by omega
    have HEL:Hid (∀ j,j≤es.length→(endV (es.take j)).length≤60):=fun j hj=>zl4 es (fun j h=>(HS1.out j h).2) j hj
    clear HIH HGL
    go_wp2
    go_loopw [18,19] (fun la i wx=>∃ j:Nat,j≤es.length∧i=.int .i64 (j:Int)∧la=.string ⟨(endV (es.take j)).toArray⟩∧wx=wo) (fun _ i _=>es.length - (intOf i).toNat)
    case atStart=>exact⟨0,Nat.zero_le _,rfl,rfl,rfl⟩
    case round =>
     obtain⟨j,hj,rfl,rfl,hwx⟩:=hrel
     subst hwx
     by_cases hlt2:j<es.length
     · have cj:=(hbel.cell (p:=⟨g,off+j,none⟩) hg).trans (HCG.out j hlt2)
       have cq:=(hbel.cell (p:=⟨q,of2+j,none⟩) hq).trans (HCQ.out j hlt2)
       have HX:Hid (endV (es.take (j+1))=if es[j].1=[] then es[j].2 else endV (es.take j)):=ziu es j hlt2
       have hj1:(j:Int)<(es.length:Int):=by omega
       have hj0':(0:Int)≤(j:Int):=by omega
       obtain⟨p,hp⟩:∃ p,p=es[j].1:=⟨_,rfl⟩
       obtain⟨v,hv⟩:∃ v,v=es[j].2:=⟨_,rfl⟩
       rw[←hp] at cj HX
       rw[←hv] at cq HX
       obtain⟨la,hla⟩:∃ la,la=endV (es.take j):=⟨_,rfl⟩
       rw[←hla] at HX ⊢
       clear hp hv hla
       by_cases hpe:p=[]
       · have HX2:Hid (endV (es.take (j+1))=v):=by rw[Hid,HX.out,if_pos hpe]
         subst hpe
         clear HX
         go_wp2
         go_roundw
         case rel=>exact⟨j+1,by omega,by go_num,by rw[HX2.out],by first | rfl | trivial⟩
         case measure=>simp[intOf];omega
       · have HX2:Hid (endV (es.take (j+1))=la):=by rw[Hid,HX.out,if_neg hpe]
         have hpe':p.isEmpty=false:=by cases p with | nil=>exact absurd rfl hpe | cons _ _=>rfl
         clear HX hpe
         go_wp2
         go_roundw
         case rel=>exact⟨j+1,by omega,by go_num,by rw[HX2.out],by first | rfl | trivial⟩
         case measure=>simp[intOf];omega
     · obtain rfl:j=es.length:=by omega
       have hj1:¬ (es.length:Int)<(es.length:Int):=by omega
       have hel:=HEL.out es.length (Nat.le_refl _)
       rw[List.take_length] at hel ⊢
       have hfl:(zak f es 16 ++ [endV es]).flatten.length≤1000:=by
        have:=zl5 f es 16 (fun d=>HR.out.1 d)
        have e : [endV es].flatten=endV es:=by simp
        rw[List.flatten_append,List.length_append,e]
        omega
       have hkl:=HR.out.2.2 16 (Nat.le_refl _)
       have HTX:Hid (zew (zak f es 16) (endV es)=za8 (zak f es 16 ++ [endV es])):=rfl
       have htl:=(zek (zak f es 16 ++ [endV es]) (by omega) (by simp[zl2])).2
       have HKL:Hid (∀ W r cp',W.ownsRow w.heap.size 9 1 (.slice (some ⟨r,0,none⟩) 17 cp') 17 (zh (zak f es 16) ++ [.string ⟨(endV es).toArray⟩])→Calls Tryz.prog 159 #[.slice (some ⟨r,0,none⟩) 17 cp'] W fun e w'=>e=.returned (.string ⟨(za8 (zak f es 16 ++ [endV es])).toArray⟩)∧Below W.heap.size W w'):=fun W r cp' ho=>by
        have e0:(zak f es 16 ++ [endV es]).length=17:=by simp[zl2]
        have:=zfn r cp' (zak f es 16 ++ [endV es]) w.heap.size W (by omega) (by omega) (by rw[e0,zc0];exact ho)
        rw[e0] at this
        exact this
       rw[←HTX.out] at HKL htl
       obtain⟨t,ht⟩:∃ t,t=zew (zak f es 16) (endV es):=⟨_,rfl⟩
       rw[←ht] at HKL htl HBL
       rw[show zbi t=(sumL t,t) from rfl] at HBL
       have KS:=fun W=>zfm t W (by omega)
       obtain⟨s,hs⟩:∃ s,s=sumL t:=⟨_,rfl⟩
       rw[←hs] at KS HBL
       obtain⟨la,hla⟩:∃ la,la=endV es:=⟨_,rfl⟩
       rw[←hla] at HKL ⊢
       have hgol:=(HO.out.lt go rfl)
       have hgpl:=(HP.out.lt gp rfl)
       have HA6:Hid (∀ w6:World,(wr.alloc (.cells #[.string ⟨la.toArray⟩] 9)).grownBy w6 (Value.slice (some ⟨gp,0,none⟩) 16 cp).ownBlock→Below w.heap.size w w6∧Hid (w6.ownsRow w.heap.size 59 2 (.slice (some ⟨go,0,none⟩) (za6 f es 16).length co) (za6 f es 16).length (zb (za6 f es 16)))):=fun w6 hg6=>⟨(hbel.alloc hsz _).grown hg6 (by simp;omega) (fun k hk=>by simp[Value.ownBlock] at hk;omega),zdm (HO.out.alloc _) hg6 (fun k hk e=>by simp[Value.ownBlock] at hk e;omega)⟩
       clear ht hs hla HTX hfl HEL HCG HCQ HS1 hel HR
       go_wp2_with (first | (at_builtin;refine wpList_append_lies _ rfl _ _ 138 rfl w.heap.size 9 j0 (.string ⟨#[]⟩) 1 16 Tryz.underlying138 hj0 hy0 hy1 hy2 rfl (by decide) (.slice (some ⟨gp,0,none⟩) 16 cp) 16 _ rfl (HP.out.alloc _) ⟨wr.heap.size,0,none⟩ 1 1 [.string ⟨la.toArray⟩] rfl rfl (World.news_of_block (cs:=#[.string ⟨la.toArray⟩]) (t:=9) (fr:=(0,0)) (heap_alloc_new wr _)) (by simp[Value.oneCell']) (by omega) (by unfold maxLen;omega) (by omega) (by simp;omega) (wr.heap.size+1) (by simp) ?_;intro g6 cap6 w6 hown6 hgrow6 hat6 hlt6) | fail)
       obtain⟨B6,HO6⟩:=HA6.out w6 hgrow6
       have KL:=HKL.out w6 g6 cap6 hown6
       have s6:=B6.size
       have hgo6:=(HO6.out.lt go rfl)
       clear hown6 hgrow6 hat6 HO HP HA6 HKL
       refine KL.mono ?_
       rintro e w7 ⟨rfl,b7⟩
       have B7:=B6.trans (b7.mono s6)
       have HO7:=zc (zan HO6.out b7)
       clear KL b7 HO6
       go_wp2_with fail
       refine (KS _).mono ?_
       rintro e w8 ⟨rfl,b8⟩
       have B8:=B7.trans (b8.mono B7.size)
       have HO8:=zc (zan HO7.out b8)
       have s8:=B8.size
       clear b8 HO7
       go_wp2_with (at_builtin;refine wpList_append_lies _ rfl _ _ 31 rfl w.heap.size 59 i0 (.agg #[.string ⟨#[]⟩,.string ⟨#[]⟩]) 2 32 Tryz.underlying31 hi0 hz0 hz1 hz2 rfl (by decide) (.slice (some ⟨go,0,none⟩) (za6 f es 16).length co) (za6 f es 16).length _ rfl (HO8.out.alloc _) ⟨w8.heap.size,0,none⟩ 1 1 [.string ⟨s.toArray⟩,.string ⟨t.toArray⟩] rfl rfl (World.news_of_block (cs:=#[.string ⟨s.toArray⟩,.string ⟨t.toArray⟩]) (t:=59) (fr:=(0,0)) (heap_alloc_new w8 _)) (by simp[Value.oneCell']) (by omega) (by unfold maxLen;omega) (by omega) (by simp;omega) (w8.heap.size+1) (by simp) ?_;intro g9 cap9 w9 hown9 hgrow9 hat9 hlt9)
       have B9:Below w.heap.size w w9:=(B8.alloc s8 _).grown hgrow9 (by simp;omega) (fun q hq=>by simp[Value.ownBlock] at hq;omega)
       have H9:Hid (w9.ownsRow w.heap.size 59 2 (.slice (some ⟨g9,0,none⟩) (zk (f+1) es).length cap9) (zk (f+1) es).length (zb (zk (f+1) es))):=by
        have e1:(zk (f+1) es).length=(za6 f es 16).length+1:=by rw[HBL.out,List.length_append];rfl
        rw[Hid,e1,HBL.out,zc2];exact hown9
       have HL9:Hid ((za6 f es 16).length+1=(zk (f+1) es).length):=by rw[Hid,HBL.out,List.length_append];rfl
       clear hown9 hgrow9 hat9
       rw[HL9.out]
       go_wp2
       go_ret
       exact⟨_,_,rfl,H9.out,B9⟩
theorem zia (f:Nat) (es:List za) (h:es≠[]):∃ ns t,zk (f+1) es=ns ++ [zbi t]:=by
 by_cases h1:es.length=1
 · obtain⟨e,rfl⟩:=List.length_eq_one_iff.1 h1
   exact⟨[],_,rfl⟩
 · have h2:2≤es.length:=by have:es.length≠0:=fun h0=>h (List.length_eq_zero_iff.1 h0);omega
   by_cases hc:0<zo es
   · exact⟨_,_,zir f es h2 hc⟩
   · exact⟨_,_,zgt f es h2 hc⟩
theorem zqx {f:Nat} {es:List za} (hf:Fits f es) (h:es≠[]):0<(zk f es).length:=by
 obtain⟨g,rfl⟩:=zit hf h
 obtain⟨ns,t,e⟩:=zia g es h
 rw[e];simp
theorem zl7 (f:Nat) (es:List za):(za0 (zk f es)).length≤32:=by
 by_cases h:es=[]
 · rw[h,zgs];simp[za0]
 · cases f with
   | zero=>simp[zk,za0]
   | succ f =>
     obtain⟨ns,t,e⟩:=zia f es h
     rw[e,zlv]
     exact Nat.le_of_eq (zgc t)
theorem zqy (f:Nat) (es:List za):∀ m d,d+m=16→(za6 f es d).length≤(za6 f es 16).length
 | 0,d,h=>by rw[show d=16 by omega];exact Nat.le_refl _
 | m + 1, d, h => by
   have:=zqy f es m (d+1) (by omega)
   rw[zqu,List.length_append] at this
   omega
theorem zqz : ∀ f : Nat, f ≤ 100 → zl1 f
 | 0,_=>fun es a b ca cb w hne _ hf=>by obtain⟨g,h⟩:=zit hf hne;omega
 | f + 1, hf1 => fun es a b ca cb w hne hl hf hsm ha hb => by
   have IH:=zqz f (by omega)
   by_cases h1:es.length=1
   · obtain⟨e,rfl⟩:=List.length_eq_one_iff.1 h1
     have:=hsm e (by simp)
     exact za1p f e a b ca cb w this.1 this.2 ha hb
   · have h2:2≤es.length:=by have:es.length≠0:=fun h0=>hne (List.length_eq_zero_iff.1 h0);omega
     by_cases hc:0<zo es
     · have hb1:=zgx f (cutE (zo es) es)
       rw[zex] at hb1
       have hb2:es.length*f≤60*100:=Nat.mul_le_mul hl (by omega)
       exact za1r f IH es a b ca cb w h2 hl hf hsm hc (Nat.le_trans (zl7 _ _) (by omega)) (zqx (zgw hf hc) (fun e=>by have h9:=zex (zo es) es;rw[e,List.length_nil] at h9;omega)) (by omega) ha hb
     · have hb1:=zgx (f+1) es
       rw[zgt f es h2 hc,List.length_append] at hb1
       have hb2:es.length*(f+1)≤60*101:=Nat.mul_le_mul hl (by omega)
       have hb3:(za6 f es 16).length≤10000:=by
        have:(za6 f es 16).length=(((List.range 16).map fun d=>zk f (grp d es)).flatten).length:=rfl
        rw[this];omega
       exact za1s f IH es a b ca cb w h2 hl hf hsm hc (fun d=>zl7 _ _) (fun d hd=>zqx (zis hf) hd) (fun d hd=>Nat.le_trans (zqy f es (16 - d) d (by omega)) hb3) ha hb
def esOf (ps:List za):List za:=ps.map fun p=>(nibs p.1,p.2)
def allL (ps:List za):List za:=zk 60 (esOf ps)
def fitP (ps:List za):Prop:=ps.length≤60∧∀ p∈ps,p.1.length≤12∧p.2.length≤60
theorem zet (ps:List za) (h:za3 ps=true):fitP ps:=by
 obtain⟨h1,h2⟩:=zfj ps h
 refine⟨h1,fun p hp=>?_⟩
 obtain⟨j,hj,rfl⟩:=List.getElem_of_mem hp
 have:=h2 j hj
 simp only[okAt,Bool.and_eq_true,decide_eq_true_eq] at this
 rw[zad ps j hj,zbo ps j hj] at this
 obtain⟨⟨⟨a,b⟩,c⟩,_⟩:=this
 exact⟨a,c⟩
theorem zl8 (l:List UInt8):(nibs l).length=2*l.length:=by
 induction l with
 | nil=>rfl
 | cons x xs ih=>simp only[nibs,List.flatMap_cons,List.length_append,List.length_cons,List.length_nil] at ih ⊢;omega
theorem zr0 {ps:List za} (h:fitP ps):zcz (esOf ps):=fun e he=>by
 obtain⟨p,hp,rfl⟩:=List.mem_map.1 he
 have:=h.2 p hp
 exact⟨by simp only[zl8];omega,this.2⟩
theorem zl9 {ps:List za} (h:fitP ps):Fits 60 (esOf ps):=fun e he=>by
 obtain⟨p,hp,rfl⟩:=List.mem_map.1 he
 have:=h.2 p hp
 simp only[zl8];omega
theorem zr1 (ps:List za) (j:Nat) (h:j<ps.length):esOf (ps.take (j+1))=esOf (ps.take j) ++ [(nibs ps[j].1,ps[j].2)]:=by rw[zdv ps j h,esOf,List.map_append];rfl
theorem zeu (ps:List za):(esOf ps).length=ps.length:=by simp[esOf]
theorem zla (ps:List za) (h:fitP ps):(allL ps).length≤3600:=by
 have:=zgx 60 (esOf ps)
 rw[zeu] at this
 have h2:=h.1
 show (zk 60 (esOf ps)).length≤3600
 omega
theorem za1t (l:List UInt8) (w:World) (hl:l.length≤1000) :
 Calls Tryz.prog 128 #[.string ⟨l.toArray⟩] w fun e w'=>e=.returned (.string ⟨(nibs l).toArray⟩)∧Below w.heap.size w w':=by
 have h:=znn ⟨l.toArray⟩ w (by simp[ByteArray.size];omega)
 have e1:(ByteArray.mk l.toArray).data.toList=l:=by simp
 rw[e1] at h
 exact h
theorem za1u (a:Option Addr) (cp:Nat) (ps:List za) (w:World) (hfit:fitP ps) (hs:IsPairs w a ps) :
 Calls Tryz.prog 95 #[.slice a ps.length cp] w fun e w'=>∃ (a':Option Addr) (c:Nat),e=.returned (.slice a' (allL ps).length c)∧w'.ownsRow w.heap.size 59 2 (.slice a' (allL ps).length c) (allL ps).length (zb (allL ps))∧Below w.heap.size w w':=by
 by_cases hps:ps=[]
 · subst hps
   have e0:allL []=[]:=rfl
   rw[e0]
   have HN:Hid (w.ownsRow w.heap.size 59 2 (.slice none 0 0) 0 []):=World.ownsRow_nil _ _ _ _
   clear hs hfit
   go_enter Tryz.func95,Tryz.ntmps95
   go_wp2
   go_ret
   exact⟨none,0,rfl,HN.out,Below.refl _ _⟩
 · obtain⟨j0,hj0,hy0,hy1,hy2⟩:=info_parts zgr
   have hpl:0<ps.length:=by rcases Nat.eq_zero_or_pos ps.length with h | h;exact absurd (List.length_eq_zero_iff.1 h) hps;exact h
   obtain⟨b,off,rfl,hc⟩:∃ b off,a=some ⟨b,off,none⟩∧∀ j (h:j<ps.length),w.cell? ⟨b,off+j*2,none⟩=some (.string ⟨ps[j].1.toArray⟩)∧w.cell? ⟨b,off+j*2+1,none⟩=some (.string ⟨ps[j].2.toArray⟩):=by
    rcases hs with h | ⟨b,off,h1,h2⟩
    · exact absurd h hps
    · exact⟨b,off,h1,h2⟩
   have hblt:=World.block_lt_of_cell? w _ (hc 0 hpl).1
   simp only at hblt
   have hl60:=hfit.1
   have HF2:Hid (∀ j (h:j<ps.length),ps[j].1.length≤12):=fun j h=>(hfit.2 _ (List.getElem_mem h)).1
   have HC:Hid _:=hc
   have HES:Hid (∀ j (h:j<ps.length),esOf (ps.take (j+1))=esOf (ps.take j) ++ [(nibs ps[j].1,ps[j].2)]):=fun j h=>zr1 ps j h
   have HEL:Hid (∀ j,j≤ps.length→(esOf (ps.take j)).length=j):=fun j h=>by rw[zeu,List.length_take];omega
   have HIH:Hid (∀ a' b' ca' cb' W,zt W a' ((esOf ps).map (·.1))→zt W b' ((esOf ps).map (·.2))→Calls Tryz.prog 129 #[.slice a' ps.length ca',.slice b' ps.length cb'] W fun e w'=>∃ g c:Nat,e=.returned (.slice (some ⟨g,0,none⟩) (allL ps).length c)∧w'.ownsRow W.heap.size 59 2 (.slice (some ⟨g,0,none⟩) (allL ps).length c) (allL ps).length (zb (allL ps))∧Below W.heap.size W w'):=fun a' b' ca' cb' W k1 k2=>by
    have:=zqz 60 (by omega) (esOf ps) a' b' ca' cb' W (by intro e;have:=zeu ps;rw[e] at this;simp at this;omega) (by rw[zeu];exact hl60) (zl9 hfit) (zr0 hfit) k1 k2
    rw[zeu] at this
    exact this
   have hpz:((ps.length:Int) == 0)=false:=by simp only[beq_eq_false_iff_ne,ne_eq];omega
   have Bw:Below w.heap.size w ((w.alloc (.cells #[] 9)).alloc (.cells #[] 9)):=((Below.refl _ _).alloc (Nat.le_refl _) _).alloc (by simp) _
   clear hs hc hps hfit
   go_enter Tryz.func95,Tryz.ntmps95
   go_wp2
   go_loopw [3,4,5] (fun pp vv i wx=>∃ (j g1 c1 g2 c2:Nat),j≤ps.length∧i=.int .i64 (j:Int)∧pp=.slice (some ⟨g1,0,none⟩) j c1∧vv=.slice (some ⟨g2,0,none⟩) j c2∧g1≠g2∧Hid (wx.ownsRow w.heap.size 9 1 (.slice (some ⟨g1,0,none⟩) j c1) j (zh ((esOf (ps.take j)).map (·.1))))∧Hid (wx.ownsRow w.heap.size 9 1 (.slice (some ⟨g2,0,none⟩) j c2) j (zh ((esOf (ps.take j)).map (·.2))))∧Below w.heap.size w wx) (fun _ _ i _=>ps.length - (intOf i).toNat)
   case atStart=>exact⟨0,w.heap.size,0,w.heap.size+1,0,by omega,rfl,rfl,rfl,by omega,by have:=World.ownsRow_lit (e:=9) (size:=1) w #[] 0 (Nat.le_refl _) (Nat.zero_le _) rfl;exact this.alloc _,zl6 w _ w.heap.size (Nat.le_refl _),Bw⟩
   case round =>
    obtain⟨j,g1,c1,g2,c2,hj,rfl,rfl,rfl,hg12,H1,H2,hb2⟩:=hrel
    have hsz2:=hb2.size
    clear Bw
    by_cases hlt2:j<ps.length
    · have cj:=(hb2.cell (p:=⟨b,off+j*2,none⟩) hblt).trans (HC.out j hlt2).1
      have HX:Hid _:=HES.out j hlt2
      have hkl:=HF2.out j hlt2
      have CQ:Hid _:=(HC.out j hlt2).2
      obtain⟨k,hk⟩:∃ k,k=ps[j].1:=⟨_,rfl⟩
      obtain⟨v,hv⟩:∃ v,v=ps[j].2:=⟨_,rfl⟩
      rw[←hk] at cj HX hkl
      rw[←hv] at CQ HX
      have KN:=fun W=>za1t k W (by omega)
      obtain⟨x,hx⟩:∃ x,x=nibs k:=⟨_,rfl⟩
      rw[←hx] at KN HX
      have hj1:(j:Int)<(ps.length:Int):=by omega
      have hj0':(0:Int)≤(j:Int):=by omega
      clear hk hv hx
      go_wp2_with fail
      refine (KN _).mono ?_
      rintro e w3 ⟨rfl,b3⟩
      have B3:=hb2.trans (b3.mono hsz2)
      have s3:=B3.size
      have H1a:=zc (zan H1.out b3)
      have H2a:=zc (zan H2.out b3)
      have hg1l:=(H1a.out.lt g1 rfl)
      have hg2l:=(H2a.out.lt g2 rfl)
      have HA4:Hid (∀ w4:World,(w3.alloc (.cells #[.string ⟨x.toArray⟩] 9)).grownBy w4 (Value.slice (some ⟨g1,0,none⟩) j c1).ownBlock→Below w.heap.size w w4∧w.heap.size≤w4.heap.size∧w3.heap.size<w4.heap.size∧Hid (w4.ownsRow w.heap.size 9 1 (.slice (some ⟨g2,0,none⟩) j c2) j (zh ((esOf (ps.take j)).map (·.2))))∧w4.cell? ⟨b,off+j*2+1,none⟩=some (.string ⟨v.toArray⟩)):=by
       intro w4 hg4
       have B4:Below w.heap.size w w4:=(B3.alloc s3 _).grown hg4 (by simp;omega) (fun k hk=>by simp[Value.ownBlock] at hk;omega)
       exact⟨B4,B4.size,by have:=hg4.size;simp at this;omega,zdm (H2a.out.alloc _) hg4 (fun k hk e=>by simp[Value.ownBlock] at hk e;omega),(B4.cell (p:=⟨b,off+j*2+1,none⟩) hblt).trans CQ.out⟩
      clear cj b3 H1 H2 H2a KN
      go_wp2_with (first | (at_builtin;refine wpList_append_lies _ rfl _ _ 138 rfl w.heap.size 9 j0 (.string ⟨#[]⟩) 1 16 Tryz.underlying138 hj0 hy0 hy1 hy2 rfl (by decide) (.slice (some ⟨g2,0,none⟩) j c2) j _ rfl (HV4.out.alloc _) ⟨w4.heap.size,0,none⟩ 1 1 [.string ⟨v.toArray⟩] rfl rfl (World.news_of_block (cs:=#[.string ⟨v.toArray⟩]) (t:=9) (fr:=(0,0)) (heap_alloc_new w4 _)) (by simp[Value.oneCell']) (by omega) (by unfold maxLen;omega) (by omega) (by simp;omega) (w4.heap.size+1) (by simp) ?_;intro g5 cap5 w5 hown5 hgrow5 hat5 hlt5) | (at_builtin;refine wpList_append_lies _ rfl _ _ 138 rfl w.heap.size 9 j0 (.string ⟨#[]⟩) 1 16 Tryz.underlying138 hj0 hy0 hy1 hy2 rfl (by decide) (.slice (some ⟨g1,0,none⟩) j c1) j _ rfl (H1a.out.alloc _) ⟨w3.heap.size,0,none⟩ 1 1 [.string ⟨x.toArray⟩] rfl rfl (World.news_of_block (cs:=#[.string ⟨x.toArray⟩]) (t:=9) (fr:=(0,0)) (heap_alloc_new w3 _)) (by simp[Value.oneCell']) (by omega) (by unfold maxLen;omega) (by omega) (by simp;omega) (w3.heap.size+1) (by simp) ?_;intro g4 cap4 w4 hown4 hgrow4 hat4 hlt4;obtain⟨B4,s4,sw4,HV4,cq4⟩:=HA4.out w4 hgrow4;have HQ4:=zc hown4;clear hown4 hgrow4))
      have hg45:g4≠g5∧g4≠g2:=by
       simp only[Value.ownBlock,Option.some.injEq] at hat4 hat5
       constructor
       · rcases hat5 with h5 | h5 <;> rcases hat4 with h4 | h4 <;> omega
       · rcases hat4 with h4 | h4 <;> omega
      have B5:Below w.heap.size w w5:=(B4.alloc s4 _).grown hgrow5 (by simp;omega) (fun k hk=>by simp[Value.ownBlock] at hk;omega)
      have H4:Hid (w5.ownsRow w.heap.size 9 1 (.slice (some ⟨g4,0,none⟩) (j+1) cap4) (j+1) (zh ((esOf (ps.take (j+1))).map (·.1)))):=by
       rw[Hid,HX.out,List.map_append]
       have e1:zh ((esOf (ps.take j)).map (·.1) ++ [(x,v)].map (·.1))=zh ((esOf (ps.take j)).map (·.1)) ++ [.string ⟨x.toArray⟩]:=zc0 _ _
       rw[e1]
       exact zdm (HQ4.out.alloc _) hgrow5 (fun k hk e=>by simp[Value.ownBlock] at hk e;omega)
      have H5:Hid (w5.ownsRow w.heap.size 9 1 (.slice (some ⟨g5,0,none⟩) (j+1) cap5) (j+1) (zh ((esOf (ps.take (j+1))).map (·.2)))):=by
       rw[Hid,HX.out,List.map_append]
       have e1:zh ((esOf (ps.take j)).map (·.2) ++ [(x,v)].map (·.2))=zh ((esOf (ps.take j)).map (·.2)) ++ [.string ⟨v.toArray⟩]:=zc0 _ _
       rw[e1]
       exact hown5
      clear hown5 hgrow5 hat5 hat4 HQ4 HV4 HX HA4 H1a
      go_wp2
      go_roundw
      case rel=>exact⟨j+1,g4,cap4,g5,cap5,by omega,by go_num,rfl,rfl,hg45.1,H4,H5,B5⟩
      case measure=>simp[intOf];omega
    · obtain rfl:j=ps.length:=by omega
      have hj1:¬ (ps.length:Int)<(ps.length:Int):=by omega
      rw[List.take_length] at H1 H2
      have KI:=HIH.out (some ⟨g1,0,none⟩) (some ⟨g2,0,none⟩) c1 c2 _ (zgq H1.out) (zgq H2.out)
      clear HIH H1 H2 HC HES HEL HF2
      go_wp2_with fail
      refine KI.mono ?_
      rintro e w6 ⟨g7,c7,rfl,o7,b6⟩
      have B6:=hb2.trans (b6.mono hsz2)
      have O7:=zc (o7.mono hsz2)
      clear KI o7 b6
      go_wp2
      go_ret
      exact⟨_,_,rfl,O7.out,B6⟩
end Go.Proofs.YtppljdnbhoeeoaaGreatDoor
