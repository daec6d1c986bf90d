import Derived.Test.YtahocpjieffbaaaGreatDoorMath2
import Derived.Test.YtahocpjieffbaaaGreatDoorMathAll
import Derived.Deep.QuietTactic
import Derived.BigQuiet
import Derived.OneCell
import Derived.Test.YtahocpjieffbaaaGreatDoorHexAll
import Derived.Test.YtahocpjieffbaaaGreatDoorSetAll
import Derived.Test.YtahocpjieffbaaaGreatDoorPairs
namespace Go.Proofs.YtahocpjieffbaaaGreatDoor
open Go.RowKit
set_option linter.unusedVariables false
def Rd (rd:Nat) (a:Option Addr) (n cap:Nat) (w:World):Prop :=
 (∃ p:Nat,p≤n∧w.heap[rd]? = some (.cells #[.slice a n cap,.int .i64 (p:Int)] 80 (0,0))) ∧
 (n=0∨∃ cb off,a=some ⟨cb,off,none⟩∧cb≠rd∧cb<w.heap.size∧∀ i,i<n→∃ z:UInt8,w.cell? ⟨cb,off+i,none⟩=some (.int .u8 (z.toNat:Int)))
theorem two_cells {w:World} {b:Nat} {u v:Value} {t:TypeId} (h:w.heap[b]? = some (.cells #[u,v] t (0,0))) :
 w.cell? ⟨b,0,none⟩=some u∧w.cell? ⟨b,1,none⟩=some v∧w.frozen? ⟨b,1,none⟩=false:=by
 refine⟨by simp[World.cell?,h],by simp[World.cell?,h],by simp[World.frozen?,h]⟩
theorem two_set {w:World} {b:Nat} {u v x:Value} {t:TypeId} (h:w.heap[b]? = some (.cells #[u,v] t (0,0))):(w.setCell ⟨b,1,none⟩ x).heap[b]? = some (.cells #[u,x] t (0,0)):=by
 have hlt:=lt_of_block h
 have h':w.heap[b]=.cells #[u,v] t (0,0):=by simpa [Array.getElem?_eq_getElem hlt] using h
 show (w.heap.modify b _)[b]? = _
 rw[Array.getElem?_eq_getElem (by simpa using hlt),Array.getElem_modify_self,h']
 rfl
theorem Rd.code {rd n cap:Nat} {a:Option Addr} {w:World} (h:Rd rd a n cap w):∀ cb off,a=some ⟨cb,off,none⟩→n≠0→cb<w.heap.size:=by
 intro cb off ha hn
 rcases h.2 with h0 | ⟨cb',off',ha',_,hlt,_⟩
 · exact absurd h0 hn
 · rw[ha] at ha'
   simp only[Option.some.injEq,Addr.mk.injEq,and_true] at ha'
   rw[ha'.1];exact hlt
theorem Rd.kept {rd n cap:Nat} {a:Option Addr} {w w':World} {row:Option Nat} (h:Rd rd a n cap w) (hg:w.grownBy w' row) (hr:row≠some rd) (hc:∀ cb off,a=some ⟨cb,off,none⟩→n≠0→some cb≠row):Rd rd a n cap w':=by
 obtain⟨⟨p,hp,hb⟩,hz⟩:=h
 refine⟨⟨p,hp,by rw[hg.block rd (lt_of_block hb) (fun e=>hr e.symm)];exact hb⟩,?_⟩
 by_cases hn:n=0
 · exact .inl hn
 · rcases hz with h0 | ⟨cb,off,ha,hne,hlt,hcell⟩
   · exact .inl h0
   · refine .inr ⟨cb,off,ha,hne,Nat.lt_of_lt_of_le hlt hg.size,fun i hi=>?_⟩
     obtain⟨z,hz⟩:=hcell i hi
     refine⟨z,?_⟩
     rw[hg.cell_far ⟨cb,off+i,none⟩ hlt (hc cb off ha hn)]
     exact hz
theorem Rd.keptNone {rd n cap:Nat} {a:Option Addr} {w w':World} (h:Rd rd a n cap w) (hb:Below w.heap.size w w'):Rd rd a n cap w' :=
 h.kept (row:=none) ⟨hb.os,hb.tape,hb.output,hb.size,fun k hk _=>hb.block k hk⟩ (by simp) (by simp)
theorem Rd.lt {rd n cap:Nat} {a:Option Addr} {w:World} (h:Rd rd a n cap w):rd<w.heap.size:=lt_of_block h.1.choose_spec.2
theorem grown_more {w w1 w2:World} {row row':Option Nat} (h:w.grownBy w1 row) (k:w1.grownBy w2 row') (hr:∀ j,row'=some j→w.heap.size≤j∨row=some j):w.grownBy w2 row :=
 ⟨k.os.trans h.os, k.tape.trans h.tape, k.output.trans h.output, Nat.le_trans h.size k.size, fun i hi hn => by
  rw[k.block i (Nat.lt_of_lt_of_le hi h.size) (fun e=>by rcases hr i e.symm with h' | h';omega;exact hn h'.symm)];exact h.block i hi hn⟩
theorem grown_drewN2 {w w':World} {row:Option Nat} (h:w.grownBy w' row) (q:Nat):w.grownBy (w'.drewN q) row:=⟨h.os,h.tape,h.output,h.size,h.block⟩
set_option maxRecDepth 100000 in
set_option maxHeartbeats 400000 in
theorem next_any (rd n cap:Nat) (a:Option Addr) (w:World) (hn:n≤1048576) (h:Rd rd a n cap w) :
 Calls Tryz.prog 66 #[.pointer (some ⟨rd,0,none⟩)] w fun e w'=>∃ x:Nat,x≤255∧e=.returned (.int .i64 (x:Int))∧Rd rd a n cap w'∧w.grownBy w' (some rd):=by
 have h0:=h
 obtain⟨⟨p,hp,hb⟩,hz⟩:=h
 obtain⟨c0,c1,f1⟩:=two_cells hb
 by_cases hlt:p<n
 · have hlt':(p:Int)<(n:Int):=by omega
   rcases hz with rfl | ⟨cb,off,rfl,hne,hcl,hcell⟩
   · omega
   · obtain⟨z,hzc⟩:=hcell p hlt
     have hzl:=z.toNat_lt
     have hb2:=two_set (x:=.int .i64 ((p:Int)+1)) hb
     obtain⟨d0,d1,_⟩:=two_cells hb2
     have d2:(w.setCell ⟨rd,1,none⟩ (.int .i64 ((p:Int)+1))).cell? ⟨cb,off+p,none⟩=some (.int .u8 (z.toNat:Int)):=by
      rw[World.cell?_of_block (w:=w) (Below.heap_setCell _ _ _ _ (by simpa using hne))];exact hzc
     have HG:w.grownBy (w.setCell ⟨rd,1,none⟩ (.int .i64 ((p:Int)+1))) (some rd):=⟨rfl,rfl,rfl,by simp[World.setCell],fun k _ hk=>Below.heap_setCell _ _ _ _ (fun e=>hk (by rw[e]))⟩
     have HR:Hid (Rd rd (some ⟨cb,off,none⟩) n cap (w.setCell ⟨rd,1,none⟩ (.int .i64 ((p:Int)+1)))):=by
      refine⟨⟨p+1,by omega,hb2⟩,.inr ⟨cb,off,rfl,hne,by simpa [World.setCell] using hcl,fun i hi=>?_⟩⟩
      obtain⟨y,hy⟩:=hcell i hi
      exact⟨y,by rw[World.cell?_of_block (w:=w) (Below.heap_setCell _ _ _ _ (by simpa using hne))];exact hy⟩
     have HGG:Hid (w.grownBy (w.setCell ⟨rd,1,none⟩ (.int .i64 ((p:Int)+1))) (some rd)):=HG
     clear hb hb2 hcell h0 HG
     go_enter Tryz.func66,Tryz.ntmps66
     go_wp2
     go_quiet (fail)
     go_wp2
     go_quiet (fail)
     go_wp2
     go_ret
     exact⟨z.toNat,by omega,rfl,HR.out,HGG.out.os,HGG.out.tape,HGG.out.output,HGG.out.size,HGG.out.block⟩
 · have hlt':¬ (p:Int)<(n:Int):=by omega
   have HR:Hid (Rd rd a n cap w):=h0
   clear h0 hz hb
   go_enter Tryz.func66,Tryz.ntmps66
   go_wp2
   go_quiet (fail)
   go_wp2
   go_ret
   exact⟨0,by omega,rfl,HR.out,rfl,rfl,rfl,Nat.le_refl _,fun _ _ _=>rfl⟩
set_option maxRecDepth 100000 in
set_option maxHeartbeats 400000 in
theorem below_any (rd n cap m:Nat) (x:Int) (a:Option Addr) (w:World) (hx:x=(m:Int)) (hm:2≤m) (hm2:m≤256) (hn:n≤1048576) (h:Rd rd a n cap w) :
 Calls Tryz.prog 42 #[.pointer (some ⟨rd,0,none⟩),.int .i64 x] w fun e w'=>∃ x:Nat,x<m∧e=.returned (.int .i64 (x:Int))∧Rd rd a n cap w'∧w.grownBy w' (some rd):=by
 subst hx
 have HK:=next_any rd n cap a w hn h
 have h1:¬ (m:Int)≤1:=by omega
 have h2:(m:Int)≤256:=by omega
 clear h
 go_enter Tryz.func42,Tryz.ntmps42
 go_wp2_with fail
 refine HK.mono ?_
 rintro e w1 ⟨y,hy,rfl,hR,hG⟩
 have HR:Hid (Rd rd a n cap w1):=hR
 have HG:Hid (w.grownBy w1 (some rd)):=hG
 clear hR hG HK
 go_wp2
 go_ret
 exact⟨y % m,Nat.mod_lt _ (by omega),by simp,HR.out,HG.out⟩
set_option maxRecDepth 100000 in
set_option maxHeartbeats 400000 in
theorem once_any (rd n cap m:Nat) (x:Int) (a:Option Addr) (w:World) (hx:x=(m:Int)) (hm:2≤m) (hm2:m≤256) (hn:n≤1048576) (h:Rd rd a n cap w) :
 Calls Tryz.prog 35 #[.pointer (some ⟨rd,0,none⟩),.int .i64 x] w fun e w'=>∃ t:Bool,e=.returned (.bool t)∧Rd rd a n cap w'∧w.grownBy w' (some rd):=by
 subst hx
 have HK:=below_any rd n cap m m a w rfl hm hm2 hn h
 clear h
 go_enter Tryz.func35,Tryz.ntmps35
 go_wp2_with fail
 refine HK.mono ?_
 rintro e w1 ⟨y,hy,rfl,hR,hG⟩
 have HR:Hid (Rd rd a n cap w1):=hR
 have HG:Hid (w.grownBy w1 (some rd)):=hG
 clear hR hG HK
 go_wp2
 go_ret
 exact⟨_,rfl,HR.out,HG.out⟩
set_option maxRecDepth 100000 in
set_option maxHeartbeats 400000 in
theorem bytes_any (rd n cap m:Nat) (x:Int) (a:Option Addr) (w:World) (hx:x=(m:Int)) (hm:1≤m) (hm2:m≤200) (hn:n≤1048576) (h:Rd rd a n cap w) :
 Calls Tryz.prog 44 #[.pointer (some ⟨rd,0,none⟩),.int .i64 x] w fun e w'=>∃ l:List UInt8,l.length≤m∧e=.returned (.string ⟨l.toArray⟩)∧Rd rd a n cap w'∧w.grownBy w' (some rd):=by
 subst hx
 obtain⟨i0,hi0,hz0,hz1,hz2⟩:=info_parts info5
 have hrd:=h.lt
 have hcode:=h.code
 have h1:Rd rd a n cap (w.alloc (.cells #[] 5)):=h.keptNone ((Below.refl _ _).alloc (Nat.le_refl _) _)
 have HK:=below_any rd n cap (m+1) ((m:Int)+1) a _ (by omega) (by omega) (by omega) hn h1
 clear h
 go_enter Tryz.func44,Tryz.ntmps44
 go_wp2_with fail
 refine HK.mono ?_
 rintro e w1 ⟨y,hy,rfl,hR,hG⟩
 have own1:w1.ownsRow w.heap.size 5 1 (.slice (some ⟨w.heap.size,0,none⟩) 0 0) 0 (bcells []):=(World.ownsRow_lit w #[] 0 (Nat.le_refl _) (Nat.zero_le _) rfl).kept hG (.inr (by simp[Value.ownBlock];omega))
 have hs1:=hG.size
 have G1:w.grownBy w1 (some rd):=(World.grownBy_alloc w _ (some rd)).trans hG
 clear HK h1 hG
 go_wp2
 go_loopw [5,6] (fun v i wr=>∃ j g c:Nat,∃ l:List UInt8,j+l.length≤m∧i=.int .i64 (j:Int)∧v=.slice (some ⟨g,0,none⟩) l.length c∧wr.ownsRow w.heap.size 5 1 (.slice (some ⟨g,0,none⟩) l.length c) l.length (bcells l)∧Rd rd a n cap wr∧w.grownBy wr (some rd)) (fun _ i _=>(intOf i).toNat)
 case atStart=>exact⟨y,w.heap.size,0,[],by simp;omega,rfl,rfl,own1,hR,G1⟩
 case round =>
  obtain⟨j,g,c,l,hjl,rfl,rfl,hown,hRr,hGr⟩:=hrel
  have hbg:=own_base hown
  have hgl:=own_lt hown
  by_cases hlt:0<j
  · have HK:=below_any rd n cap 256 256 a wr rfl (by omega) (by omega) hn hRr
    have HO:=hidOwn hown
    clear hRr hown own1 G1 hR
    go_wp2_with fail
    refine HK.mono ?_
    rintro e w2 ⟨z,hz,rfl,hR2,hG2⟩
    have hown2:=HO.out.kept hG2 (.inr (by simp[Value.ownBlock];omega))
    have hG3:=hGr.trans hG2
    have hs2:=hG2.size
    have hsw:=hG3.size
    have HR2:Hid (Rd rd a n cap w2):=hR2
    clear HK HO hR2 hG2 hGr
    go_wp2_with (at_builtin;refine wpList_append_lies _ rfl _ _ 22 rfl w.heap.size 5 i0 (.int .u8 0) 1 1 Tryz.underlying22 hi0 hz0 hz1 hz2 rfl (by decide) (.slice (some ⟨g,0,none⟩) l.length c) l.length _ rfl (hown2.alloc _) ⟨w2.heap.size,0,none⟩ 1 1 [.int .u8 (z:Int)] rfl rfl (World.news_of_block (cs:=#[.int .u8 (z:Int)]) (t:=5) (fr:=(0,0)) (heap_alloc_new w2 _)) (by simp[Value.oneCell']) (by omega) (by unfold maxLen;omega) (by omega) (by simp;omega) (w2.heap.size+1) (by simp) ?_;intro g2 c2 w3 hown3 hgrow hat hlt3)
    have hR3:Rd rd a n cap w3:=(HR2.out.keptNone ((Below.refl _ _).alloc (Nat.le_refl _) _)).kept hgrow (by simp[Value.ownBlock];omega) (fun cb off ha hn0=>by have:=hcode cb off ha hn0;simp[Value.ownBlock];omega)
    have hG4:w.grownBy w3 (some rd):=grown_more (hG3.trans (World.grownBy_alloc w2 _ (some rd))) hgrow (fun k hk=>.inl (by simp[Value.ownBlock] at hk;omega))
    clear hgrow HR2 hG3
    obtain⟨zb,hzb⟩:∃ zb:UInt8,(z:Int)=(zb.toNat:Int):=⟨UInt8.ofNat z,by rw[byte_of];omega⟩
    rw[hzb] at hown3
    clear hzb
    go_roundw
    case rel=>exact⟨j - 1,g2,c2,l ++ [zb],by simp;omega,by go_num,by simp,by rw[bcells_snoc];simpa using hown3,hR3,hG4⟩
    case measure=>simp[intOf];omega
  · have hcv:=own_string (P:=Tryz.prog) Tryz.underlying22 Tryz.underlying5 Tryz.underlying9 hown
    have HR2:Hid (Rd rd a n cap wr):=hRr
    clear hRr own1 hR G1 hown
    go_wp2
    go_ret
    exact⟨l,by omega,rfl,HR2.out,hGr⟩
set_option maxRecDepth 100000 in
set_option maxHeartbeats 400000 in
theorem below_gen (rd n cap m:Nat) (x:Int) (a:Option Addr) (w:World) (hx:x=(m:Int)) (hm:1≤m) (hm2:m≤65536) (hn:n≤1048576) (h:Rd rd a n cap w) :
 Calls Tryz.prog 42 #[.pointer (some ⟨rd,0,none⟩),.int .i64 x] w fun e w'=>∃ x:Nat,x<m∧e=.returned (.int .i64 (x:Int))∧Rd rd a n cap w'∧w.grownBy w' (some rd):=by
 by_cases h1:m=1
 · subst hx h1
   have HR:Hid (Rd rd a n cap w):=h
   clear h
   go_enter Tryz.func42,Tryz.ntmps42
   go_wp2
   go_ret
   exact⟨0,by omega,rfl,HR.out,World.grownBy.refl _ _⟩
 · by_cases h256:m≤256
   · exact below_any rd n cap m x a w hx (by omega) h256 hn h
   · subst hx
     have HK:=next_any rd n cap a w hn h
     have h1':¬ (m:Int)≤1:=by omega
     have h2':¬ (m:Int)≤256:=by omega
     clear h
     go_enter Tryz.func42,Tryz.ntmps42
     go_wp2_with fail
     refine HK.mono ?_
     rintro e w1 ⟨y,hy,rfl,hR,hG⟩
     have HK2:=next_any rd n cap a w1 hn hR
     have HG:Hid (w.grownBy w1 (some rd)):=hG
     clear hR hG HK
     go_wp2_with fail
     refine HK2.mono ?_
     rintro e w2 ⟨z,hz,rfl,hR2,hG2⟩
     have HR2:Hid (Rd rd a n cap w2):=hR2
     have HG2:Hid (w.grownBy w2 (some rd)):=HG.out.trans hG2
     clear hR2 hG2 HK2 HG
     go_wp2
     go_ret
     exact⟨(y*256+z) % m,Nat.mod_lt _ (by omega),by simp,HR2.out,HG2.out⟩
theorem ba_app2 (a b:List UInt8):ByteArray.mk a.toArray ++ ByteArray.mk b.toArray=⟨(a ++ b).toArray⟩:=by
 apply ByteArray.ext;simp
def Code (w:World) (a:Option Addr) (n:Nat):Prop:=n=0∨∃ cb off,a=some ⟨cb,off,none⟩∧cb<w.heap.size∧∀ i,i<n→∃ z:UInt8,w.cell? ⟨cb,off+i,none⟩=some (.int .u8 (z.toNat:Int))
theorem Code.later {w w':World} {a:Option Addr} {n:Nat} (h:Code w a n) (hb:Below w.heap.size w w'):Code w' a n:=by
 rcases h with h | ⟨cb,off,h1,h2,h3⟩
 · exact .inl h
 · exact .inr ⟨cb,off,h1,Nat.lt_of_lt_of_le h2 hb.size,fun i hi=>by obtain⟨z,hz⟩:=h3 i hi;exact⟨z,by rw[hb.cell (p:=⟨cb,off+i,none⟩) h2];exact hz⟩⟩
set_option maxRecDepth 100000 in
set_option maxHeartbeats 400000 in
theorem open_any (n cap:Nat) (a:Option Addr) (w:World) (h:Code w a n) :
 Calls Tryz.prog 19 #[.slice a n cap] w fun e w'=>e=.returned (.pointer (some ⟨w.heap.size,0,none⟩))∧Rd w.heap.size a n cap w'∧Below w.heap.size w w':=by
 have HR:Hid (Rd w.heap.size a n cap (w.alloc (.cells #[.slice a n cap,.int .i64 0] 80))):=by
  refine⟨⟨0,Nat.zero_le _,heap_alloc_new w _⟩,?_⟩
  rcases h with h | ⟨cb,off,h1,h2,h3⟩
  · exact .inl h
  · exact .inr ⟨cb,off,h1,by omega,by simp;omega,fun i hi=>by obtain⟨z,hz⟩:=h3 i hi;exact⟨z,by rw[World.cell?_of_block (w:=w) (Below.heap_alloc _ _ _ h2)];exact hz⟩⟩
 clear h
 go_enter Tryz.func19,Tryz.ntmps19
 go_wp2
 go_ret
 exact⟨rfl,HR.out,(Below.refl _ _).alloc (Nat.le_refl _) _⟩
theorem below_rd {w w1 w2:World} (h:Below w.heap.size w w1) (hg:w1.grownBy w2 (some w.heap.size)):Below w.heap.size w w2 :=
 h.grown hg h.size (fun k hk=>by simp at hk;omega)
def shortB (m:Nat):Value→Bool
 | .string s=>decide (s.size≤m)
 | _=>false
theorem shortB_is (m:Nat) (v:Value) (h:shortB m v=true):∃ l:List UInt8,l.length≤m∧v=.string ⟨l.toArray⟩:=by
 match v,h with
 | .string s,h=>exact⟨s.data.toList,by simpa [shortB] using h,by rw[←ba_eq]⟩
theorem tabB_any {w w1:World} {rd m k:Nat} {cs:Array Value} {t:TypeId} (hrd:rd<w.heap.size) (hG:(w.alloc (.cells cs t)).grownBy w1 (some rd)) (hall:cs.all (shortB m)=true) (hk:k<cs.size) :
 ∃ l:List UInt8,l.length≤m∧w1.cell? ⟨w.heap.size,k,none⟩=some (.string ⟨l.toArray⟩):=by
 have hb:w1.heap[w.heap.size]? = some (.cells cs t):=by rw[hG.block _ (by simp) (by simp;omega)];exact heap_alloc_new w _
 have hv:=(Array.all_eq_true.1 hall) k hk
 obtain⟨l,hl,e⟩:=shortB_is m _ hv
 refine⟨l,hl,?_⟩
 rw[←e]
 simp[World.cell?,hb,hk]
theorem grown_setC {w w':World} {row:Option Nat} (h:w.grownBy w' row) (p:Addr) (v:Value) (hp:w.heap.size≤p.block):w.grownBy (w'.setCell p v) row :=
 ⟨h.os,h.tape,h.output,by simpa [World.setCell] using h.size,fun k hk hne=>(Below.heap_setCell _ _ _ _ (fun e=>by rw[e] at hk;omega)).trans (h.block k hk hne)⟩
set_option maxRecDepth 100000 in
set_option maxHeartbeats 400000 in
theorem key_any (rd n cap:Nat) (a:Option Addr) (w:World) (hn:n≤1048576) (h:Rd rd a n cap w) :
 Calls Tryz.prog 43 #[.pointer (some ⟨rd,0,none⟩)] w fun e w'=>∃ l:List UInt8,l.length≤5∧e=.returned (.string ⟨l.toArray⟩)∧Rd rd a n cap w'∧w.grownBy w' (some rd):=by
 have hrd:=h.lt
 have HR0:Hid (Rd rd a n cap w):=h
 clear h
 go_enter Tryz.func43,Tryz.ntmps43
 go_wp2_with fail
 refine (below_any rd n cap 12 12 a _ rfl (by omega) (by omega) hn (HR0.out.keptNone ((Below.refl _ _).alloc (Nat.le_refl _) _))).mono ?_
 rintro e w1 ⟨k,hk,rfl,hR,hG⟩
 obtain⟨l,hl,hc⟩:=tabB_any (m:=5) (k:=k) hrd hG (by decide +kernel) hk
 have HR:Hid (Rd rd a n cap w1):=hR
 have HG:Hid (w.grownBy w1 (some rd)):=(World.grownBy_alloc w _ (some rd)).trans hG
 have hk':(k:Int)<12:=by omega
 clear hR hG HR0
 go_wp2
 go_ret
 exact⟨l,hl,rfl,HR.out,HG.out⟩
set_option maxRecDepth 100000 in
set_option maxHeartbeats 400000 in
theorem value_any (rd n cap:Nat) (a:Option Addr) (w:World) (hn:n≤1048576) (h:Rd rd a n cap w) :
 Calls Tryz.prog 46 #[.pointer (some ⟨rd,0,none⟩)] w fun e w'=>∃ l:List UInt8,l.length≤5∧e=.returned (.string ⟨l.toArray⟩)∧Rd rd a n cap w'∧w.grownBy w' (some rd):=by
 have hrd:=h.lt
 have HR0:Hid (Rd rd a n cap w):=h
 clear h
 go_enter Tryz.func46,Tryz.ntmps46
 go_wp2_with fail
 refine (below_any rd n cap 6 6 a _ rfl (by omega) (by omega) hn (HR0.out.keptNone ((Below.refl _ _).alloc (Nat.le_refl _) _))).mono ?_
 rintro e w1 ⟨k,hk,rfl,hR,hG⟩
 obtain⟨l,hl,hc⟩:=tabB_any (m:=5) (k:=k) hrd hG (by decide +kernel) hk
 have HR:Hid (Rd rd a n cap w1):=hR
 have HG:Hid (w.grownBy w1 (some rd)):=(World.grownBy_alloc w _ (some rd)).trans hG
 have hk':(k:Int)<6:=by omega
 clear hR hG HR0
 go_wp2
 go_ret
 exact⟨l,hl,rfl,HR.out,HG.out⟩
set_option maxRecDepth 100000 in
set_option maxHeartbeats 400000 in
theorem wordB_any (rd n cap:Nat) (a:Option Addr) (w:World) (hn:n≤1048576) (h:Rd rd a n cap w) :
 Calls Tryz.prog 67 #[.pointer (some ⟨rd,0,none⟩)] w fun e w'=>∃ x:Int,e=.returned (.int .u64 x)∧Rd rd a n cap w'∧w.grownBy w' (some rd):=by
 go_enter Tryz.func67,Tryz.ntmps67
 go_wp2
 go_loopw [3,4] (fun v i wr=>∃ j:Nat,∃ x:Int,j≤8∧i=.int .i64 (j:Int)∧v=.int .u64 x∧Rd rd a n cap wr∧w.grownBy wr (some rd)) (fun _ i _=>8 - (intOf i).toNat)
 case atStart=>exact⟨0,0,by omega,rfl,rfl,h,World.grownBy.refl _ _⟩
 case round =>
  obtain⟨j,x,hj,rfl,rfl,hRr,hgr⟩:=hrel
  clear h
  by_cases hlt:j<8
  · have hlt':(j:Int)<8:=by omega
    have K:=next_any rd n cap a wr hn hRr
    have HG:Hid (w.grownBy wr (some rd)):=hgr
    clear hRr hgr
    go_wp2_with fail
    refine K.mono ?_
    rintro e w1 ⟨y,hy,rfl,hR1,hG1⟩
    have HR1:Hid (Rd rd a n cap w1):=hR1
    have HG1:Hid (w.grownBy w1 (some rd)):=grown_more HG.out hG1 (by simp)
    clear K hR1 hG1 HG
    go_wp2
    go_roundw
    case rel=>exact⟨j+1,_,by omega,by go_num,rfl,HR1.out,HG1.out⟩
    case measure=>simp[intOf];omega
  · have HRr:Hid (Rd rd a n cap wr):=hRr
    have HG:Hid (w.grownBy wr (some rd)):=hgr
    clear hRr hgr
    go_wp2
    go_ret
    exact⟨x,rfl,HRr.out,HG.out⟩
set_option maxRecDepth 100000 in
set_option maxHeartbeats 400000 in
theorem nearB_any (rd n cap:Nat) (a:Option Addr) (w:World) (hn:n≤1048576) (h:Rd rd a n cap w) :
 Calls Tryz.prog 47 #[.pointer (some ⟨rd,0,none⟩),.int .i64 1,.int .i64 1000000000000] w fun e w'=>∃ x:Int,e=.returned (.int .i64 x)∧Rd rd a n cap w'∧w.grownBy w' (some rd):=by
 have K1:=below_any rd n cap 8 8 a w rfl (by omega) (by omega) hn h
 clear h
 go_enter Tryz.func47,Tryz.ntmps47
 go_wp2_with fail
 refine K1.mono ?_
 rintro e w1 ⟨y,hy,rfl,hR1,hG1⟩
 have HR1:Hid (Rd rd a n cap w1):=hR1
 have HG1:Hid (w.grownBy w1 (some rd)):=hG1
 clear K1 hR1 hG1
 by_cases y0:y=0
 · subst y0
   go_wp2
   go_ret
   exact⟨_,rfl,HR1.out,HG1.out⟩
 · have y0':((y:Int) == 0)=false:=by simp only[beq_eq_false_iff_ne,ne_eq];omega
   by_cases y1:y=1
   · subst y1
     go_wp2
     go_ret
     exact⟨_,rfl,HR1.out,HG1.out⟩
   · have y1':((y:Int) == 1)=false:=by simp only[beq_eq_false_iff_ne,ne_eq];omega
     have K2:=wordB_any rd n cap a w1 hn HR1.out
     clear HR1
     go_wp2_with fail
     refine K2.mono ?_
     rintro e w2 ⟨z,rfl,hR2,hG2⟩
     have HR2:Hid (Rd rd a n cap w2):=hR2
     have HG2:Hid (w.grownBy w2 (some rd)):=grown_more HG1.out hG2 (by simp)
     clear K2 hR2 hG2 HG1
     go_wp2
     go_ret
     exact⟨_,rfl,HR2.out,HG2.out⟩
def isI64B:Value→Bool
 | .int .i64 _=>true
 | _=>false
theorem isI64B_is (v:Value) (h:isI64B v=true):∃ x,v=.int .i64 x:=by
 match v,h with
 | .int .i64 x,_=>exact⟨x,rfl⟩
theorem tabIB_any {w w1:World} {rd k:Nat} {cs:Array Value} {t:TypeId} (hrd:rd<w.heap.size) (hG:(w.alloc (.cells cs t)).grownBy w1 (some rd)) (hall:cs.all isI64B=true) (hk:k<cs.size) :
 ∃ x:Int,w1.cell? ⟨w.heap.size,k,none⟩=some (.int .i64 x):=by
 have hb:w1.heap[w.heap.size]? = some (.cells cs t):=by rw[hG.block _ (by simp) (by simp;omega)];exact heap_alloc_new w _
 have hv:=(Array.all_eq_true.1 hall) k hk
 obtain⟨x,e⟩:=isI64B_is _ hv
 refine⟨x,?_⟩
 rw[←e]
 simp[World.cell?,hb,hk]
set_option maxRecDepth 100000 in
set_option maxHeartbeats 400000 in
theorem offB_any (rd n cap:Nat) (a:Option Addr) (w:World) (hn:n≤1048576) (h:Rd rd a n cap w) :
 Calls Tryz.prog 21 #[.pointer (some ⟨rd,0,none⟩),.int .i64 1,.int .i64 1000000000000] w fun e w'=>∃ x:Int,e=.returned (.int .i64 x)∧Rd rd a n cap w'∧w.grownBy w' (some rd):=by
 have K1:=once_any rd n cap 24 24 a w rfl (by omega) (by omega) hn h
 clear h
 go_enter Tryz.func21,Tryz.ntmps21
 go_wp2_with fail
 refine K1.mono ?_
 rintro e w1 ⟨t,rfl,hR1,hG1⟩
 have HR1:Hid (Rd rd a n cap w1):=hR1
 have HG1:Hid (w.grownBy w1 (some rd)):=hG1
 have hrd:=hR1.lt
 clear K1 hR1 hG1
 cases t
 · have K2:=nearB_any rd n cap a w1 hn HR1.out
   clear HR1
   go_wp2_with fail
   refine K2.mono ?_
   rintro e w2 ⟨z,rfl,hR2,hG2⟩
   have HR2:Hid (Rd rd a n cap w2):=hR2
   have HG2:Hid (w.grownBy w2 (some rd)):=grown_more HG1.out hG2 (by simp)
   clear K2 hR2 hG2 HG1
   go_wp2
   go_ret
   exact⟨z,rfl,HR2.out,HG2.out⟩
 · go_wp2_with fail
   refine (below_any rd n cap 4 4 a _ rfl (by omega) (by omega) hn (HR1.out.keptNone ((Below.refl _ _).alloc (Nat.le_refl _) _))).mono ?_
   rintro e w2 ⟨k,hk,rfl,hR2,hG2⟩
   obtain⟨z,hc⟩:=tabIB_any (k:=k) hrd hG2 (by simp[isI64B]) (by simpa using hk)
   have HR2:Hid (Rd rd a n cap w2):=hR2
   have HG2:Hid (w.grownBy w2 (some rd)):=grown_more HG1.out ((World.grownBy_alloc w1 _ (some rd)).trans hG2) (by simp)
   have hk':(k:Int)<4:=by omega
   have hk0:(0:Int)≤(k:Int):=by omega
   clear hR2 hG2 HG1 HR1
   go_wp2
   go_ret
   exact⟨z,rfl,HR2.out,HG2.out⟩
theorem setStep_len (k v:List UInt8) (L:List PairL) (d:Bool) (p:PairL) (n:Nat) (h:L.length≤n+(if d=true then 1 else 0)):(setStep k v (L,d) p).1.length≤n+1+(if (setStep k v (L,d) p).2=true then 1 else 0):=by
 by_cases hd:d=false∧Op.bytesLess p.1 k=false
 · obtain⟨rfl,hb⟩:=hd
   rw[step_put k v L p hb]
   simp at h ⊢
   split <;> simp <;> omega
 · rw [step_less k v L d p (by
    cases d
    · right;cases hb:Op.bytesLess p.1 k
      · exact absurd ⟨rfl,hb⟩ hd
      · rfl
    · exact .inl rfl)]
   simp only
   split <;> (cases d <;> simp at h ⊢ <;> omega)
theorem setFold_len (k v:List UInt8) (ps:List PairL):∀ j,j≤ps.length→(setFold k v (ps.take j)).1.length≤j+(if (setFold k v (ps.take j)).2=true then 1 else 0)
 | 0,_=>by rw[setFold_zero];simp
 | j + 1, h => by
   rw[setFold_snoc k v ps j (by omega)]
   have:=setFold_len k v ps j (by omega)
   exact setStep_len k v _ _ _ j this
theorem setL_len (ps:List PairL) (k v:List UInt8):(setL ps k v).length≤ps.length+1:=by
 have:=setFold_len k v ps ps.length (Nat.le_refl _)
 rw[List.take_length] at this
 rw[setL]
 split
 · rename_i h;rw[h] at this;simp at this;omega
 · rename_i h;simp[h] at this;simp;omega
def smallP (ps:List PairL):Prop:=∀ p∈ps,p.1.length≤7∧p.2.length≤5
theorem smallP_set {ps:List PairL} {k v:List UInt8} (h:smallP ps) (hk:k.length≤7) (hv:v.length≤5):smallP (setL ps k v):=fun p hp=>by
 rcases setL_mem ps k v p hp with rfl | h'
 · exact⟨hk,hv⟩
 · exact h p h'
theorem rd_far {w:World} {B e rd n:Nat} {v:Value} {xs:List Value} (h:w.ownsRow B e 2 v n xs) (hr:rd<B):∀ k,v.ownBlock=some k→(some rd)≠some k:=fun k hk e=>by have:=(h.lt k hk).1;cases e;omega
theorem keptR {w w':World} {b e sz n:Nat} {v:Value} {xs:List Value} {row:Option Nat} (h:w.ownsRow b e sz v n xs) (g:w.grownBy w' row) (hne:∀ k,v.ownBlock=some k→row≠some k):w'.ownsRow b e sz v n xs :=
 h.kept g (by
  cases hv:v.ownBlock with
  | none=>exact .inl rfl
  | some q=>exact .inr (fun e=>hne q hv e.symm))
theorem grown_below {w w1 w2:World} {rd:Nat} (h:w.grownBy w1 (some rd)) (b:Below w1.heap.size w1 w2):w.grownBy w2 (some rd):=h.trans ⟨b.os,b.tape,b.output,b.size,fun k hk _=>b.block k hk⟩
set_option maxRecDepth 100000 in
set_option maxHeartbeats 2000000 in
theorem pairs_any (rd n cap m:Nat) (x:Int) (a:Option Addr) (w:World) (hx:x=(m:Int)) (hm:1≤m) (hm2:m≤200) (hn:n≤1048576) (h:Rd rd a n cap w) :
 Calls Tryz.prog 20 #[.pointer (some ⟨rd,0,none⟩),.int .i64 x] w fun e w'=>∃ (ps:List PairL) (g c:Nat),ps.length≤m+1∧smallP ps∧e=.returned (.slice (some ⟨g,0,none⟩) ps.length c)∧w'.ownsRow w.heap.size 56 2 (.slice (some ⟨g,0,none⟩) ps.length c) ps.length (pcells ps)∧Rd rd a n cap w'∧w.grownBy w' (some rd):=by
 obtain⟨i0,hi0,hz0,hz1,hz2⟩:=info_parts infoPair
 subst hx
 have hrd:=h.lt
 have HC:Hid (∀ cb off,a=some ⟨cb,off,none⟩→n≠0→cb<w.heap.size):=h.code
 have HR0:Hid (Rd rd a n cap (w.alloc (.cells #[] 56))):=h.keptNone ((Below.refl _ _).alloc (Nat.le_refl _) _)
 have HO0:=hidOwn (World.ownsRow_lit (e:=56) (size:=2) w #[] 0 (base:=w.heap.size) (Nat.le_refl _) (Nat.zero_le _) rfl)
 have HG0:Hid (w.grownBy (w.alloc (.cells #[] 56)) (some rd)):=World.grownBy_alloc w _ (some rd)
 clear h
 go_enter Tryz.func20,Tryz.ntmps20
 go_wp2_with fail
 refine (below_any rd n cap (m+1) ((m:Int)+1) a _ (by omega) (by omega) (by omega) hn HR0.out).mono ?_
 rintro e w1 ⟨q,hq,rfl,hR1,hG1⟩
 have HR1:Hid (Rd rd a n cap w1):=hR1
 have HG1:Hid (w.grownBy w1 (some rd)):=HG0.out.trans hG1
 have HO1:=hidOwn (keptR HO0.out hG1 (rd_far HO0.out hrd))
 clear hR1 hG1 HR0 HG0 HO0
 go_wp2
 go_loopw [5,6] (fun o i wr=>∃ (j g c:Nat) (ps:List PairL),j≤q∧i=.int .i64 (j:Int)∧o=.slice (some ⟨g,0,none⟩) ps.length c∧ps.length+j≤q∧smallP ps∧wr.ownsRow w.heap.size 56 2 (.slice (some ⟨g,0,none⟩) ps.length c) ps.length (pcells ps)∧Hid (Rd rd a n cap wr)∧Hid (w.grownBy wr (some rd))) (fun _ i _=>(intOf i).toNat)
 case atStart=>exact⟨q,w.heap.size,0,[],Nat.le_refl _,rfl,rfl,by simp,fun p hp=>by simp at hp,HO1.out,HR1,HG1⟩
 case round =>
  obtain⟨j,g,c,ps,hj,rfl,rfl,hl,hsm,hown,HR,HG⟩:=hrel
  clear HR1 HG1 HO1
  by_cases hlt:0<j
  · have hj1:(0:Int)<(j:Int):=by omega
    have HSM:Hid (smallP ps):=hsm
    have HO:=hidOwn hown
    clear hown hsm
    go_wp2_with fail
    refine (key_any rd n cap a _ hn HR.out).mono ?_
    rintro e w2 ⟨k,hk,rfl,hR2,hG2⟩
    have HR2:Hid (Rd rd a n cap w2):=hR2
    have HG2:Hid (w.grownBy w2 (some rd)):=HG.out.trans hG2
    have HO2:=hidOwn (keptR HO.out hG2 (rd_far HO.out hrd))
    clear hR2 hG2 HR HG HO
    go_wp2_with fail
    refine (once_any rd n cap 5 5 a _ rfl (by omega) (by omega) hn HR2.out).mono ?_
    rintro e w3 ⟨t,rfl,hR3,hG3⟩
    have HR3:Hid (Rd rd a n cap w3):=hR3
    have HG3:Hid (w.grownBy w3 (some rd)):=HG2.out.trans hG3
    have HO3:=hidOwn (keptR HO2.out hG3 (rd_far HO2.out hrd))
    clear hR3 hG3 HR2 HG2 HO2
    cases t
    · have hk7:k.length≤7:=by omega
      go_wp2_with fail
      refine (value_any rd n cap a _ hn HR3.out).mono ?_
      rintro e w4 ⟨v,hv,rfl,hR4,hG4⟩
      have HR4:Hid (Rd rd a n cap w4):=hR4
      have HG4:Hid (w.grownBy w4 (some rd)):=HG3.out.trans hG4
      have HO4:=hidOwn (keptR HO3.out hG4 (rd_far HO3.out hrd))
      have KS:=l5Set_any (some ⟨g,0,none⟩) c ps k v w4 (by omega) (fun p hp=>by have:=HSM.out p hp;omega) (by omega) (by omega) (isPairs_own HO4.out).2.2
      have HSL:Hid ((setL ps k v).length≤ps.length+1∧smallP (setL ps k v)):=⟨setL_len ps k v,smallP_set HSM.out hk7 hv⟩
      obtain⟨L,hL⟩:∃ L,L=setL ps k v:=⟨_,rfl⟩
      rw[←hL] at KS HSL
      clear hR4 hG4 HR3 HG3 HO3 hL
      go_wp2_with fail
      refine KS.mono ?_
      rintro e w5 ⟨g5,c5,rfl,_,o5,b5⟩
      have HO5:=hidOwn (o5.mono HG4.out.size)
      have HR5:Hid (Rd rd a n cap w5):=HR4.out.keptNone b5
      have HG5:Hid (w.grownBy w5 (some rd)):=grown_below HG4.out b5
      have hLl:=HSL.out.1
      clear KS o5 b5 HR4 HG4 HO4
      go_wp2
      go_roundw
      case rel=>exact⟨j - 1,g5,c5,L,by omega,by go_num,rfl,by omega,HSL.out.2,HO5.out,HR5,HG5⟩
      case measure=>simp[intOf];omega
    · go_wp2_with fail
      refine (bytes_any rd n cap 2 2 a _ rfl (by omega) (by omega) hn HR3.out).mono ?_
      rintro e w6 ⟨b2,hb2,rfl,hR6,hG6⟩
      have HR6:Hid (Rd rd a n cap w6):=hR6
      have HG6:Hid (w.grownBy w6 (some rd)):=HG3.out.trans hG6
      have HO6:=hidOwn (keptR HO3.out hG6 (rd_far HO3.out hrd))
      obtain⟨k',hk'⟩:∃ k',k'=k ++ b2:=⟨_,rfl⟩
      have hk7:k'.length≤7:=by rw[hk',List.length_append];omega
      have hap:ByteArray.mk k.toArray ++ ByteArray.mk b2.toArray=⟨k'.toArray⟩:=by rw[hk'];exact ba_app2 k b2
      clear hR6 hG6 HR3 HG3 HO3 hk'
      go_wp2_with fail
      refine (value_any rd n cap a _ hn HR6.out).mono ?_
      rintro e w4 ⟨v,hv,rfl,hR4,hG4⟩
      have HR4:Hid (Rd rd a n cap w4):=hR4
      have HG4:Hid (w.grownBy w4 (some rd)):=HG6.out.trans hG4
      have HO4:=hidOwn (keptR HO6.out hG4 (rd_far HO6.out hrd))
      have KS:=l5Set_any (some ⟨g,0,none⟩) c ps k' v w4 (by omega) (fun p hp=>by have:=HSM.out p hp;omega) (by omega) (by omega) (isPairs_own HO4.out).2.2
      have HSL:Hid ((setL ps k' v).length≤ps.length+1∧smallP (setL ps k' v)):=⟨setL_len ps k' v,smallP_set HSM.out hk7 hv⟩
      obtain⟨L,hL⟩:∃ L,L=setL ps k' v:=⟨_,rfl⟩
      rw[←hL] at KS HSL
      clear hR4 hG4 HR6 HG6 HO6 hL
      go_wp2_with fail
      refine KS.mono ?_
      rintro e w5 ⟨g5,c5,rfl,_,o5,b5⟩
      have HO5:=hidOwn (o5.mono HG4.out.size)
      have HR5:Hid (Rd rd a n cap w5):=HR4.out.keptNone b5
      have HG5:Hid (w.grownBy w5 (some rd)):=grown_below HG4.out b5
      have hLl:=HSL.out.1
      clear KS o5 b5 HR4 HG4 HO4
      go_wp2
      go_roundw
      case rel=>exact⟨j - 1,g5,c5,L,by omega,by go_num,rfl,by omega,HSL.out.2,HO5.out,HR5,HG5⟩
      case measure=>simp[intOf];omega
  · obtain rfl:j=0:=by omega
    have HSM:Hid (smallP ps):=hsm
    have HO:=hidOwn hown
    clear hown hsm
    go_wp2_with fail
    refine (once_any rd n cap 30 30 a _ rfl (by omega) (by omega) hn HR.out).mono ?_
    rintro e w3 ⟨t,rfl,hR3,hG3⟩
    have HR3:Hid (Rd rd a n cap w3):=hR3
    have HG3:Hid (w.grownBy w3 (some rd)):=HG.out.trans hG3
    have HO3:=hidOwn (keptR HO.out hG3 (rd_far HO.out hrd))
    clear hR3 hG3 HR HG HO
    cases t
    · go_wp2
      go_ret
      exact⟨ps,g,c,by omega,HSM.out,rfl,HO3.out,HR3.out,HG3.out⟩
    · go_wp2_with fail
      refine (key_any rd n cap a _ hn HR3.out).mono ?_
      rintro e w4 ⟨k,hk,rfl,hR4,hG4⟩
      have HR4:Hid (Rd rd a n cap w4):=hR4
      have HG4:Hid (w.grownBy w4 (some rd)):=HG3.out.trans hG4
      have HO4:=hidOwn (keptR HO3.out hG4 (rd_far HO3.out hrd))
      clear hR4 hG4 HR3 HG3 HO3
      go_wp2_with fail
      refine (value_any rd n cap a _ hn HR4.out).mono ?_
      rintro e w5 ⟨v,hv,rfl,hR5,hG5⟩
      have HR5:Hid (Rd rd a n cap w5):=hR5
      have HG5:Hid (w.grownBy w5 (some rd)):=HG4.out.trans hG5
      have HO5:=hidOwn (keptR HO4.out hG5 (rd_far HO4.out hrd))
      have s5:=HG5.out.size
      clear hR5 hG5 HR4 HG4 HO4
      go_wp2_with (at_builtin;refine wpList_append_lies _ rfl _ _ 24 rfl w.heap.size 56 i0 (.agg #[.string ⟨#[]⟩,.string ⟨#[]⟩]) 2 32 Tryz.underlying24 hi0 hz0 hz1 hz2 rfl (by decide) (.slice (some ⟨g,0,none⟩) ps.length c) ps.length _ rfl (HO5.out.alloc _) ⟨w5.heap.size,0,none⟩ 1 1 [.string ⟨k.toArray⟩,.string ⟨v.toArray⟩] rfl rfl (World.news_of_block (cs:=#[.string ⟨k.toArray⟩,.string ⟨v.toArray⟩]) (t:=56) (fr:=(0,0)) (heap_alloc_new w5 _)) (by simp[Value.oneCell']) (by omega) (by unfold maxLen;omega) (by omega) (by simp;omega) (w5.heap.size+1) (by simp) ?_;intro g7 cap7 w7 hown7 hgrow7 hat7 hlt7)
      have HO7:Hid (w7.ownsRow w.heap.size 56 2 (.slice (some ⟨g7,0,none⟩) (ps ++ [(k,v)]).length cap7) (ps ++ [(k,v)]).length (pcells (ps ++ [(k,v)]))):=by rw[Hid,pcells_snoc,List.length_append];exact hown7
      have hgb:=(HO5.out.lt g rfl).1
      have hR7:Rd rd a n cap w7:=(HR5.out.keptNone ((Below.refl _ _).alloc (Nat.le_refl _) _)).kept hgrow7 (by simp[Value.ownBlock];omega) (fun cb off he hz e=>by have:=HC.out cb off he hz;simp[Value.ownBlock] at e;omega)
      have HG7:Hid (w.grownBy w7 (some rd)):=grown_more (HG5.out.trans (World.grownBy_alloc w5 _ (some rd))) hgrow7 (fun j hj=>by simp[Value.ownBlock] at hj;omega)
      have HR7:Hid (Rd rd a n cap w7):=hR7
      have HS7:Hid (smallP (ps ++ [(k,v)])):=fun p hp=>by
       rcases List.mem_append.1 hp with h | h
       · exact HSM.out p h
       · simp at h;subst h;exact⟨by simp only;omega,hv⟩
      have hln:(ps ++ [(k,v)]).length=ps.length+1:=by simp
      obtain⟨L,hL⟩:∃ L,L=ps ++ [(k,v)]:=⟨_,rfl⟩
      rw[←hL] at HO7 HS7 hln
      rw[←hln]
      clear hR7 hown7 hgrow7 hat7 HR5 HG5 HO5 hL
      go_wp2
      go_ret
      exact⟨L,g7,cap7,by omega,HS7.out,rfl,HO7.out,HR7.out,HG7.out⟩
set_option maxRecDepth 100000 in
set_option maxHeartbeats 400000 in
theorem near8_any (rd n cap:Nat) (a:Option Addr) (w:World) (hn:n≤1048576) (h:Rd rd a n cap w) :
 Calls Tryz.prog 47 #[.pointer (some ⟨rd,0,none⟩),.int .i64 1,.int .i64 8] w fun e w'=>∃ x:Int,e=.returned (.int .i64 x)∧Rd rd a n cap w'∧w.grownBy w' (some rd):=by
 have K1:=below_any rd n cap 8 8 a w rfl (by omega) (by omega) hn h
 clear h
 go_enter Tryz.func47,Tryz.ntmps47
 go_wp2_with fail
 refine K1.mono ?_
 rintro e w1 ⟨y,hy,rfl,hR1,hG1⟩
 have HR1:Hid (Rd rd a n cap w1):=hR1
 have HG1:Hid (w.grownBy w1 (some rd)):=hG1
 clear K1 hR1 hG1
 by_cases y0:y=0
 · subst y0
   go_wp2
   go_ret
   exact⟨_,rfl,HR1.out,HG1.out⟩
 · have y0':((y:Int) == 0)=false:=by simp only[beq_eq_false_iff_ne,ne_eq];omega
   by_cases y1:y=1
   · subst y1
     go_wp2
     go_ret
     exact⟨_,rfl,HR1.out,HG1.out⟩
   · have y1':((y:Int) == 1)=false:=by simp only[beq_eq_false_iff_ne,ne_eq];omega
     have K2:=wordB_any rd n cap a w1 hn HR1.out
     clear HR1
     go_wp2_with fail
     refine K2.mono ?_
     rintro e w2 ⟨z,rfl,hR2,hG2⟩
     have HR2:Hid (Rd rd a n cap w2):=hR2
     have HG2:Hid (w.grownBy w2 (some rd)):=grown_more HG1.out hG2 (by simp)
     clear K2 hR2 hG2 HG1
     go_wp2
     go_ret
     exact⟨_,rfl,HR2.out,HG2.out⟩
set_option maxRecDepth 100000 in
set_option maxHeartbeats 400000 in
theorem off8_any (rd n cap:Nat) (a:Option Addr) (w:World) (hn:n≤1048576) (h:Rd rd a n cap w) :
 Calls Tryz.prog 21 #[.pointer (some ⟨rd,0,none⟩),.int .i64 1,.int .i64 8] w fun e w'=>∃ x:Int,e=.returned (.int .i64 x)∧Rd rd a n cap w'∧w.grownBy w' (some rd):=by
 have K1:=once_any rd n cap 24 24 a w rfl (by omega) (by omega) hn h
 clear h
 go_enter Tryz.func21,Tryz.ntmps21
 go_wp2_with fail
 refine K1.mono ?_
 rintro e w1 ⟨t,rfl,hR1,hG1⟩
 have HR1:Hid (Rd rd a n cap w1):=hR1
 have HG1:Hid (w.grownBy w1 (some rd)):=hG1
 have hrd:=hR1.lt
 clear K1 hR1 hG1
 cases t
 · have K2:=near8_any rd n cap a w1 hn HR1.out
   clear HR1
   go_wp2_with fail
   refine K2.mono ?_
   rintro e w2 ⟨z,rfl,hR2,hG2⟩
   have HR2:Hid (Rd rd a n cap w2):=hR2
   have HG2:Hid (w.grownBy w2 (some rd)):=grown_more HG1.out hG2 (by simp)
   clear K2 hR2 hG2 HG1
   go_wp2
   go_ret
   exact⟨z,rfl,HR2.out,HG2.out⟩
 · go_wp2_with fail
   refine (below_any rd n cap 4 4 a _ rfl (by omega) (by omega) hn (HR1.out.keptNone ((Below.refl _ _).alloc (Nat.le_refl _) _))).mono ?_
   rintro e w2 ⟨k,hk,rfl,hR2,hG2⟩
   obtain⟨z,hc⟩:=tabIB_any (k:=k) hrd hG2 (by simp[isI64B]) (by simpa using hk)
   have HR2:Hid (Rd rd a n cap w2):=hR2
   have HG2:Hid (w.grownBy w2 (some rd)):=grown_more HG1.out ((World.grownBy_alloc w1 _ (some rd)).trans hG2) (by simp)
   have hk':(k:Int)<4:=by omega
   have hk0:(0:Int)≤(k:Int):=by omega
   clear hR2 hG2 HG1 HR1
   go_wp2
   go_ret
   exact⟨z,rfl,HR2.out,HG2.out⟩
set_option maxRecDepth 100000 in
set_option maxHeartbeats 1000000 in
theorem drawChunksOf (n cap:Nat) (a:Option Addr) (w:World) (hn:n≤1048576) (h:Code w a n) :
 Calls Tryz.prog 5 #[.slice a n cap] w fun e w'=>∃ (ps:List PairL) (g c:Nat) (x:Int),ps.length≤10∧smallP ps∧e=.returned (.tuple #[.slice (some ⟨g,0,none⟩) ps.length c,.int .i64 x])∧w'.ownsRow w.heap.size 56 2 (.slice (some ⟨g,0,none⟩) ps.length c) ps.length (pcells ps)∧Below w.heap.size w w':=by
 have H1:=open_any n cap a w h
 clear h
 go_enter Tryz.func5,Tryz.ntmps5
 go_wp2_with fail
 refine H1.mono ?_
 rintro e w1 ⟨rfl,hR1,b1⟩
 have HR1:Hid (Rd w.heap.size a n cap w1):=hR1
 have hlt1:=hR1.lt
 clear hR1 H1
 go_wp2_with fail
 refine (pairs_any w.heap.size n cap 9 9 a w1 rfl (by omega) (by omega) hn HR1.out).mono ?_
 rintro e w2 ⟨ps,g,c,hpl,hsm,rfl,o2,hR2,hG2⟩
 have HR2:Hid (Rd w.heap.size a n cap w2):=hR2
 have HSM:Hid (smallP ps):=hsm
 have B2:=below_rd b1 hG2
 have HO2:=hidOwn o2
 clear hR2 hG2 HR1 o2 hsm b1
 go_wp2_with fail
 refine (off8_any w.heap.size n cap a w2 hn HR2.out).mono ?_
 rintro e w3 ⟨x,rfl,hR3,hG3⟩
 have B3:=below_rd B2 hG3
 have HO3:=hidOwn ((keptR HO2.out hG3 (rd_far HO2.out hlt1)).mono (Nat.le_of_lt hlt1))
 clear hR3 hG3 HR2 HO2
 go_wp2
 go_ret2
 exact⟨ps,g,c,x,hpl,HSM.out,rfl,HO3.out,B3⟩
theorem below_dqP {B:Nat} {w w':World} {q:Nat} (h:Below B w w'):Below B w (w'.drewN q):=⟨h.os,h.tape,h.output,h.size,h.block⟩
set_option maxRecDepth 100000 in
set_option maxHeartbeats 400000 in
theorem samePairs_same (ps : List PairL) (a c : Option Addr) (n m : Nat) (w : World) (hl : ps.length ≤ 16777216) (hu : IsPairs w a ps) (hv : IsPairs w c ps) :
 Calls Tryz.prog 18 #[.slice a ps.length n,.slice c ps.length m] w fun e w'=>e=.returned (.bool true)∧Below w.heap.size w w':=by
 rcases hu with rfl | ⟨b,off,rfl,h1⟩
 · go_enter Tryz.func18,Tryz.ntmps18
   go_wp2
   refine wp_loop_rounds 1 ?_
   rw[rounds_succ]
   go_wp2
   go_ret
   exact⟨rfl,Below.refl _ _⟩
 · rcases hv with rfl | ⟨d,of2,rfl,h2⟩
   · go_enter Tryz.func18,Tryz.ntmps18
     go_wp2
     refine wp_loop_rounds 1 ?_
     rw[rounds_succ]
     go_wp2
     go_ret
     exact⟨rfl,Below.refl _ _⟩
   · go_enter Tryz.func18,Tryz.ntmps18
     go_wp2
     go_loopw [5] (fun i wr=>∃ j:Nat,j≤ps.length∧i=.int .i64 (j:Int)∧Below w.heap.size w wr) (fun i _=>ps.length - (intOf i).toNat)
     case atStart=>exact⟨0,Nat.zero_le _,rfl,Below.refl _ _⟩
     case round =>
      obtain⟨j,hj,rfl,hbel⟩:=hrel
      have hsz:=hbel.size
      by_cases hlt:j<ps.length
      · have hbl:=World.block_lt_of_cell? w _ (h1 j hlt).1
        have hdl:=World.block_lt_of_cell? w _ (h2 j hlt).1
        have c1:=(hbel.cell (p:=⟨b,off+j*2,none⟩) hbl).trans (h1 j hlt).1
        have c2:=(hbel.cell (p:=⟨b,off+j*2+1,none⟩) hbl).trans (h1 j hlt).2
        have d1:=(hbel.cell (p:=⟨d,of2+j*2,none⟩) hdl).trans (h2 j hlt).1
        have d2:=(hbel.cell (p:=⟨d,of2+j*2+1,none⟩) hdl).trans (h2 j hlt).2
        have hj0:(0:Int)≤(j:Int):=by omega
        have hj1:(j:Int)<(ps.length:Int):=by omega
        obtain⟨x,hx⟩:∃ x,x=ps[j].1:=⟨_,rfl⟩
        obtain⟨y,hy⟩:∃ y,y=ps[j].2:=⟨_,rfl⟩
        rw[←hx] at c1 d1
        rw[←hy] at c2 d2
        clear h1 h2 hx hy hbl hdl
        go_wp2
        go_quiet (fail)
        go_wp2
        go_roundw
        case rel=>exact⟨j+1,by omega,by go_num,below_dqP hbel⟩
        case measure=>simp[intOf];omega
      · go_wp2
        go_ret
        exact⟨rfl,hbel⟩
theorem laidOut:laidOutB Tryz.prog=true:=by kernel_rfl
theorem bigNo (n cap:Nat) (a:Option Addr) (w:World) (h:n≤1048576) :
 Calls Tryz.prog 4 #[.slice a n cap] w fun e w'=>e=.returned (.bool false)∧w'=w:=by
 have h':¬ (1048576:Int)<(n:Int):=by omega
 go_enter Tryz.func4,Tryz.ntmps4
 go_wp2
 go_ret
 exact⟨by simp,rfl⟩
theorem bigYes (n cap:Nat) (a:Option Addr) (w:World) (h:¬ n≤1048576) :
 Calls Tryz.prog 4 #[.slice a n cap] w fun e w'=>e=.returned (.bool true)∧w'=w:=by
 have h':(1048576:Int)<(n:Int):=by omega
 go_enter Tryz.func4,Tryz.ntmps4
 go_wp2
 go_ret
 exact⟨by simp,rfl⟩
theorem codeOf (W:World) (x:Addr) (len cap:Nat) (zs:List Int) (hl:len≤cap) (hz:zs.length=cap) (hcell:∀ i,i<zs.length→W.cell? (x.add i)=some (.int .u8 (zs.getD i 0))) (hwz:∀ n∈zs,(Lit.int .u8 n).wf=true):Code W (some x) len:=by
 by_cases h0:len=0
 · exact .inl h0
 · obtain⟨b,o,sp⟩:=x
   have h00:=hcell 0 (by omega)
   have hsp:sp=none:=World.cell?_spot (a:=⟨b,o,sp⟩) (by simpa [Addr.add] using h00)
   subst hsp
   have hlt:b<W.heap.size:=by
    rcases Nat.lt_or_ge b W.heap.size with h | h
    · exact h
    · simp[Addr.add,World.cell?,Array.getElem?_eq_none h] at h00
   refine .inr ⟨b,o,rfl,hlt,fun i hi=>?_⟩
   have hc:=hcell i (by omega)
   have ha:(Addr.add ⟨b,o,none⟩ i)=⟨b,o+i,none⟩:=by unfold Addr.add;split <;> simp_all
   rw[ha] at hc
   have hi':i<zs.length:=by omega
   have hm:zs.getD i 0∈zs:=by simp[List.getD,List.getElem?_eq_getElem hi']
   have hwf:=hwz _ hm
   obtain⟨z,hz⟩:∃ z,z=zs.getD i 0:=⟨_,rfl⟩
   rw[←hz] at hc hwf
   have hr:0≤z∧z≤255:=by simp only[Lit.wf,Bool.and_eq_true,decide_eq_true_eq] at hwf;exact hwf
   refine⟨UInt8.ofNat z.toNat,?_⟩
   rw[byte_of,hc]
   congr 2
   omega
theorem below_dqS {B:Nat} {w w':World} {q:Nat} (h:Below B w w'):Below B w (w'.drewN q):=⟨h.os,h.tape,h.output,h.size,h.block⟩
set_option maxRecDepth 100000 in
set_option maxHeartbeats 400000 in
theorem sameStores_same (ps : List PairL) (a c : Option Addr) (n m : Nat) (w : World) (hl : ps.length ≤ 16777216) (hu : IsPairs w a ps) (hv : IsPairs w c ps) :
 Calls Tryz.prog 17 #[.slice a ps.length n,.slice c ps.length m] w fun e w'=>e=.returned (.bool true)∧Below w.heap.size w w':=by
 rcases hu with rfl | ⟨b,off,rfl,h1⟩
 · go_enter Tryz.func17,Tryz.ntmps17
   go_wp2
   refine wp_loop_rounds 1 ?_
   rw[rounds_succ]
   go_wp2
   go_ret
   exact⟨rfl,Below.refl _ _⟩
 · rcases hv with rfl | ⟨d,of2,rfl,h2⟩
   · go_enter Tryz.func17,Tryz.ntmps17
     go_wp2
     refine wp_loop_rounds 1 ?_
     rw[rounds_succ]
     go_wp2
     go_ret
     exact⟨rfl,Below.refl _ _⟩
   · go_enter Tryz.func17,Tryz.ntmps17
     go_wp2
     go_loopw [5] (fun i wr=>∃ j:Nat,j≤ps.length∧i=.int .i64 (j:Int)∧Below w.heap.size w wr) (fun i _=>ps.length - (intOf i).toNat)
     case atStart=>exact⟨0,Nat.zero_le _,rfl,Below.refl _ _⟩
     case round =>
      obtain⟨j,hj,rfl,hbel⟩:=hrel
      have hsz:=hbel.size
      by_cases hlt:j<ps.length
      · have hbl:=World.block_lt_of_cell? w _ (h1 j hlt).1
        have hdl:=World.block_lt_of_cell? w _ (h2 j hlt).1
        have c1:=(hbel.cell (p:=⟨b,off+j*2,none⟩) hbl).trans (h1 j hlt).1
        have c2:=(hbel.cell (p:=⟨b,off+j*2+1,none⟩) hbl).trans (h1 j hlt).2
        have d1:=(hbel.cell (p:=⟨d,of2+j*2,none⟩) hdl).trans (h2 j hlt).1
        have d2:=(hbel.cell (p:=⟨d,of2+j*2+1,none⟩) hdl).trans (h2 j hlt).2
        have hj0:(0:Int)≤(j:Int):=by omega
        have hj1:(j:Int)<(ps.length:Int):=by omega
        obtain⟨x,hx⟩:∃ x,x=ps[j].1:=⟨_,rfl⟩
        obtain⟨y,hy⟩:∃ y,y=ps[j].2:=⟨_,rfl⟩
        rw[←hx] at c1 d1
        rw[←hy] at c2 d2
        clear h1 h2 hx hy hbl hdl
        go_wp2
        go_quiet (fail)
        go_wp2
        go_roundw
        case rel=>exact⟨j+1,by omega,by go_num,below_dqS hbel⟩
        case measure=>simp[intOf];omega
      · go_wp2
        go_ret
        exact⟨rfl,hbel⟩
end Go.Proofs.YtahocpjieffbaaaGreatDoor
