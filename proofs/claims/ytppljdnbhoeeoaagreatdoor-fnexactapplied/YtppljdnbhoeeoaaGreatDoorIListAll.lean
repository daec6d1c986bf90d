/-
 Texts that are laid as one: IList, IListN, StrsX, IL1.
-/
import Derived.Test.YtppljdnbhoeeoaaGreatDoorReadAll
import Derived.Test.YtppljdnbhoeeoaaGreatDoorWrapTxt
import Derived.Test.YtppljdnbhoeeoaaGreatDoorShelf
import Derived.Test.YtppljdnbhoeeoaaGreatDoorStrsAll
namespace Go.Proofs.YtppljdnbhoeeoaaGreatDoor
open Go.RowKit
set_option linter.unusedVariables false
set_option maxHeartbeats 1000000
set_option maxRecDepth 100000
theorem zwc (l:List UInt8) (w:World) (hl:l.length≤1048576) :
 Calls Tryz.prog 210 #[.string ⟨l.toArray⟩] w fun e w'=>e=.returned (.bool (zaq l))∧Below w.heap.size w w':=by
 have H1:=fun W=>zqh l W hl
 cases htk:zn l with
 | none =>
   rw[zz9 l htk]
   rw[htk] at H1
   simp only[tkV] at H1
   clear htk
   go_enter Tryz.func210,Tryz.ntmps210
   go_wp2_with fail
   refine (H1 _).mono ?_
   rintro e w1 ⟨rfl,hb1⟩
   go_wp2
   go_ret
   exact⟨rfl,hb1⟩
 | some y =>
   obtain⟨k,bd,rest⟩:=y
   cases rest with
   | nil =>
     rw[zki l k bd htk]
     rw[htk] at H1
     simp only[tkV] at H1
     clear htk
     go_enter Tryz.func210,Tryz.ntmps210
     go_wp2_with fail
     refine (H1 _).mono ?_
     rintro e w1 ⟨rfl,hb1⟩
     go_wp2
     go_ret
     exact⟨rfl,hb1⟩
   | cons a r =>
     rw[zza l k bd a r htk]
     rw[htk] at H1
     simp only[tkV] at H1
     clear htk
     go_enter Tryz.func210,Tryz.ntmps210
     go_wp2_with fail
     refine (H1 _).mono ?_
     rintro e w1 ⟨rfl,hb1⟩
     go_wp2
     go_ret
     exact⟨rfl,hb1⟩
theorem zwd (g cap:Nat) (ls:List (List UInt8)) (w:World) (hg:g<w.heap.size) (hcap:ls.length≤cap) (hl:ls.length≤1048576) (hf:ls.flatten.length≤1048576)
 (hc:∀ j (h:j<ls.length),w.cell? ⟨g,j,none⟩=some (.string ⟨ls[j].toArray⟩)) :
 Calls Tryz.prog 211 #[.slice (some ⟨g,0,none⟩) ls.length cap,.string ⟨#[]⟩] w fun e w'=>e=.returned (.string ⟨ls.flatten.toArray⟩)∧Below w.heap.size w w':=by
 have hmap:(ls.map (fun l=>ByteArray.mk l.toArray)).map (·.data.toList)=ls:=by simp[Function.comp_def]
 have:=Tryz.strings_Join g 0 cap (ls.map (fun l=>ByteArray.mk l.toArray)) ⟨#[]⟩ w
  (fun j x hx => by
   simp only[List.getElem?_map,Option.map_eq_some_iff] at hx
   obtain⟨l,h1,rfl⟩:=hx
   obtain⟨h2,rfl⟩:=List.getElem?_eq_some_iff.1 h1
   simpa using hc j h2) hg (by simp;omega) (by simpa using hcap) (by rw[hmap,join_nil];omega)
 rw[hmap,join_nil] at this
 simpa using this
theorem zwe (g cap : Nat) (ls : List (List UInt8)) (b0 : Nat) (w : World) (hl : ls.length + ls.flatten.length ≤ 1048576) (hcap : ls.length ≤ cap) (hv : w.ownsRow b0 9 1 (.slice (some ⟨g, 0, none⟩) ls.length cap) ls.length (zh ls)) :
 Calls Tryz.prog 181 #[.slice (some ⟨g,0,none⟩) ls.length cap] w fun e w'=>e=.returned (.string ⟨(zc1 ls).toArray⟩)∧Below w.heap.size w w':=by
 have hgl:=zci hv
 have hc:∀ j (h:j<ls.length),w.cell? ⟨g,j,none⟩=some (.string ⟨ls[j].toArray⟩):=fun j h=>by rw[hv.cellAt j (by omega),zgm ls j h]
 have hln:ls.length≤1048576:=by omega
 have hfn:ls.flatten.length≤1048576:=by omega
 obtain⟨out,hout⟩:∃ out,out=zc1 ls:=⟨_,rfl⟩
 rw[←hout]
 have HO:Hid (out=zc1 ls):=hout
 clear hout hv hl
 go_enter Tryz.func181,Tryz.ntmps181
 go_wp2
 go_loop [3,5,10] (fun v _ i=>∃ j t:Nat,j≤ls.length∧i=.int .i64 (j:Int)∧v=.int .i64 (t:Int)∧Hid (t=(ls.take j).flatten.length)∧t≤60000) (fun _ _ i=>ls.length - (intOf i).toNat)
 case atStart=>exact⟨0,0,Nat.zero_le _,rfl,rfl,rfl,by omega⟩
 case round =>
  obtain⟨j,t,hj,rfl,rfl,HT,ht6⟩:=hrel
  by_cases hlt:j<ls.length
  · have c1:=hc j hlt
    have hxl:=zen ls j hlt
    have HF:Hid ((ls.take (j+1)).flatten.length=t+ls[j].length):=by rw[Hid,zpu ls j hlt,List.length_append,←HT.out]
    have HG:60000<(ls.take (j+1)).flatten.length→out=[]:=fun h=>by rw[HO.out];exact zzb ls (j+1) h
    have hj0:(0:Int)≤(j:Int):=by omega
    have hj1:(j:Int)<(ls.length:Int):=by omega
    obtain⟨x,hx⟩:∃ x,x=ls[j]:=⟨_,rfl⟩
    rw[←hx] at c1 hxl HF
    rw[HF.out] at HG
    have hxn:x.length≤1048576:=by omega
    have HHG:Hid (60000<t+x.length→out=[]):=HG
    clear hc hx HG hxl HT
    by_cases hbig:t+x.length≤60000
    · have hbig':(t:Int)+(x.length:Int)≤60000:=by omega
      go_wp2
      go_round
      case rel=>exact⟨j+1,t+x.length,by omega,by go_num,by go_num,HF.out.symm,hbig⟩
      case measure=>simp[intOf];omega
    · have hbig':¬ (t:Int)+(x.length:Int)≤60000:=by omega
      have HZ:Hid (out=[]):=HHG.out (by omega)
      go_wp2
      go_ret
      exact⟨by rw[HZ.out];rfl,Below.refl _ _⟩
  · have hjl : j = ls.length := by omega
    subst hjl
    have hf6:ls.flatten.length≤60000:=by have:=HT.out;rw[List.take_length] at this;omega
    clear HT
    go_wp2
    go_loopw [7,23] (fun _ i wr=>∃ j:Nat,j≤ls.length∧i=.int .i64 (j:Int)∧Hid ((ls.take j).all zaq=true)∧Below w.heap.size w wr) (fun _ i _=>ls.length - (intOf i).toNat)
    case atStart=>exact⟨0,Nat.zero_le _,rfl,rfl,Below.refl _ _⟩
    case round =>
     obtain⟨j,hj,rfl,HA,hbel⟩:=hrel
     have hsz:=hbel.size
     by_cases hlt:j<ls.length
     · have c1:=(hbel.cell (p:=⟨g,j,none⟩) hgl).trans (hc j hlt)
       have hxl:=zen ls j hlt
       have HN:zaq ls[j]=false→out=[]:=fun h=>by rw[HO.out];exact zzc ls j hlt h
       have HS:zaq ls[j]=true→(ls.take (j+1)).all zaq=true:=fun h=>zzd ls j hlt HA.out h
       have hj0:(0:Int)≤(j:Int):=by omega
       have hj1:(j:Int)<(ls.length:Int):=by omega
       obtain⟨x,hx⟩:∃ x,x=ls[j]:=⟨_,rfl⟩
       rw[←hx] at c1 hxl HN HS
       have H1:=fun W=>zwc x W (by omega)
       have HHN:Hid (zaq x=false→out=[]):=HN
       have HHS:Hid (zaq x=true→(ls.take (j+1)).all zaq=true):=HS
       clear hc hx HN HS hxl HA
       by_cases hit:zaq x=true
       · have HR:Hid ((ls.take (j+1)).all zaq=true):=HHS.out hit
         rw[hit] at H1
         clear hit
         go_wp2_with fail
         refine (H1 _).mono ?_
         rintro e w1 ⟨rfl,hb1⟩
         have hbel2:=hbel.trans (hb1.mono hsz)
         clear H1 hb1 hbel c1
         go_wp2
         go_roundw
         case rel=>exact⟨j+1,by omega,by go_num,HR,hbel2⟩
         case measure=>simp[intOf];omega
       · have hit':zaq x=false:=by simpa using hit
         have HR:Hid (out=[]):=HHN.out hit'
         rw[hit'] at H1
         clear hit hit'
         go_wp2_with fail
         refine (H1 _).mono ?_
         rintro e w1 ⟨rfl,hb1⟩
         have hbel2:=hbel.trans (hb1.mono hsz)
         clear H1 hb1 hbel c1
         go_wp2
         go_ret
         exact⟨by rw[HR.out];rfl,hbel2⟩
     · have hjl:j=ls.length:=by omega
       subst hjl
       have HR:Hid (out=za9 ls.flatten 192):=by
        have e2:=HA.out
        rw[List.take_length] at e2
        rw[Hid,HO.out,zhx ls hf6 e2]
       have H1:=zwd g cap ls wr (Nat.lt_of_lt_of_le hgl hsz) hcap hln hfn (fun j h=>(hbel.cell (p:=⟨g,j,none⟩) hgl).trans (hc j h))
       have H2:=fun W=>zix ⟨ls.flatten.toArray⟩ 192 W (by simp[ByteArray.size] at hf6 ⊢;omega) (by omega)
       clear hc HA
       go_wp2_with fail
       refine H1.mono ?_
       rintro e w1 ⟨rfl,hb1⟩
       have hbel2:=hbel.trans (hb1.mono hsz)
       have hsz2:=hbel2.size
       go_wp2_with fail
       refine (H2 _).mono ?_
       rintro e w2 ⟨rfl,hb2⟩
       go_wp2
       go_ret
       exact⟨by rw[HR.out];rfl,hbel2.trans (hb2.mono hsz2)⟩
theorem znx (w:World) :
 Calls Tryz.prog 181 #[.slice none 0 0] w fun e w'=>e=.returned (.string ⟨(zc1 []).toArray⟩)∧Below w.heap.size w w':=by
 have H1:=fun W=>Tryz.strings_Join_none none 0 ⟨#[]⟩ W
 have H2:=fun W=>zix ⟨#[]⟩ 192 W (by simp[ByteArray.size]) (by omega)
 have e1:zc1 []=za9 (ByteArray.mk #[]).data.toList 192:=zhx [] (by simp) rfl
 rw[e1]
 obtain⟨out,hout⟩:∃ out,out=za9 (ByteArray.mk #[]).data.toList 192:=⟨_,rfl⟩
 rw[←hout] at H2 ⊢
 clear e1 hout
 go_enter Tryz.func181,Tryz.ntmps181
 go_wp2
 refine wp_loop_rounds 1 ?_
 rw[rounds_succ]
 go_wp2
 refine wp_loop_rounds 1 ?_
 rw[rounds_succ]
 go_wp2_with fail
 refine (H1 _).mono ?_
 rintro e w1 ⟨rfl,rfl⟩
 go_wp2_with fail
 refine (H2 _).mono ?_
 rintro e w2 ⟨rfl,hb2⟩
 go_wp2
 go_ret
 exact⟨rfl,hb2⟩
theorem zwf {w:World} {base e n g cap:Nat} {xs:List Value} (h:w.ownsRow base e 1 (.slice (some ⟨g,0,none⟩) n cap) n xs):n≤cap:=by
 rcases h.2 with ⟨h',_⟩ | ⟨g',cap',cur,h',_,_,hc,_⟩
 · cases h'
 · cases h';exact hc
theorem zwg (ls:List (List UInt8)) (v:Value) (b0:Nat) (w:World) (hl:ls.length+ls.flatten.length≤1048576) (hv:w.ownsRow b0 9 1 v ls.length (zh ls)) :
 Calls Tryz.prog 181 #[v] w fun e w'=>e=.returned (.string ⟨(zc1 ls).toArray⟩)∧Below w.heap.size w w':=by
 rcases zff hv with ⟨rfl,hn,hx⟩ | ⟨g,cap,rfl,_⟩
 · obtain rfl:ls=[]:=List.length_eq_zero_iff.1 hn
   exact znx w
 · exact zwe g cap ls b0 w hl (zwf hv) hv
theorem zay {w w':World} {a:Option Addr} {ls:List (List UInt8)} (h:zt w a ls) (hb:Below w.heap.size w w'):zt w' a ls:=by
 rcases h with h | ⟨b,off,h1,h2⟩
 · exact .inl h
 · exact .inr ⟨b,off,h1,fun j h=>(hb.cell (p:=⟨b,off+j,none⟩) (World.block_lt_of_cell? w _ (h2 j h))).trans (h2 j h)⟩
theorem zc8 {w:World} {base e n:Nat} {a:Option Addr} {m cap:Nat} {ls:List (List UInt8)} (h:w.ownsRow base e 1 (.slice a m cap) n (zh ls)):m=ls.length∧n=ls.length∧zt w a ls:=by
 have hn:n=ls.length:=by have:=h.1;rw[zem] at this;omega
 rcases zff h with ⟨hv,h0,hx⟩ | ⟨g,cap',hv,hg1,hg2,hc,hf⟩
 · cases hv
   exact⟨by omega,hn,.inl (List.length_eq_zero_iff.1 (by omega))⟩
 · cases hv
   exact⟨hn,hn,.inr ⟨g,0,rfl,fun j hj=>by rw[Nat.zero_add,hc j (by omega),zgm ls j hj]⟩⟩
theorem zg6 {w w':World} {b e n:Nat} {v:Value} {xs:List Value} (h:w.ownsRow b e 1 v n xs) (hb:Below w.heap.size w w'):w'.ownsRow b e 1 v n xs :=
 h.kept (row:=none) ⟨hb.os,hb.tape,hb.output,hb.size,fun k hk _=>hb.block k hk⟩ (by
  cases hv:v.ownBlock with
  | none=>exact .inl rfl
  | some k=>exact .inr (by simp))
theorem zdc:(Tryz.prog.info? 9).map (fun i=>(i.zero,i.size,i.bytes))=some (some (.string ⟨#[]⟩),1,16):=by kernel_rfl
theorem zwh (l:List UInt8) (hl:l.length≤60000) (w:World) :
 Calls Tryz.prog 100 #[.string ⟨l.toArray⟩] w fun e w'=>e=.returned (.string ⟨(zz l).toArray⟩)∧Below w.heap.size w w':=by
 have h:=zsk ⟨l.toArray⟩ w (by simp[ByteArray.size];omega)
 have e1:(ByteArray.mk l.toArray).data.toList=l:=by simp
 have e2:zgl l=zz l:=if_pos hl
 rw[e1,e2] at h
 exact h
theorem zjs (a:Option Addr) (cap:Nat) (ls:List (List UInt8)) (w:World) (hf:ls.flatten.length≤30000) (hl:ls.length≤1001) (hs:zt w a ls) :
 Calls Tryz.prog 140 #[.slice a ls.length cap] w fun e w'=>e=.returned (.string ⟨(za8 ls).toArray⟩)∧Below w.heap.size w w':=by
 obtain⟨i0,hi0,hz0,hz1,hz2⟩:=info_parts zdc
 obtain⟨out,hout⟩:∃ out,out=za8 ls:=⟨_,rfl⟩
 have HO:Hid (zc1 (ls.map zz)=out):=by rw[Hid,hout,zyd ls hf hl]
 have HF:Hid ((ls.map zz).length+(ls.map zz).flatten.length≤1048576):=by rw[Hid];have h1:=(zek ls hf hl).1;unfold zbf at h1;rw[List.length_map];omega
 rw[←hout]
 clear hout
 rcases hs with rfl | ⟨b,off,rfl,hc⟩
 · go_enter Tryz.func140,Tryz.ntmps140
   go_wp2
   refine wp_loop_rounds 1 ?_
   rw[rounds_succ]
   have K:=znx w
   rw[show zc1 []=out from HO.out] at K
   go_wp2_with fail
   refine K.mono ?_
   rintro e w1 ⟨rfl,b1⟩
   go_wp2
   go_ret
   exact⟨rfl,b1⟩
 · go_enter Tryz.func140,Tryz.ntmps140
   go_wp2
   go_loopw [3,5,8] (fun v _ i wr=>∃ j c1:Nat,∃ a1:Option Addr,j≤ls.length∧i=.int .i64 (j:Int)∧v=.slice a1 j c1∧wr.ownsRow w.heap.size 9 1 (.slice a1 j c1) j (zh ((ls.take j).map zz))∧Below w.heap.size w wr) (fun _ _ i _=>ls.length - (intOf i).toNat)
   case atStart=>exact⟨0,0,none,Nat.zero_le _,rfl,rfl,World.ownsRow_nil _ _ _ _,Below.refl _ _⟩
   case round =>
    obtain⟨j,c1,a1,hj,rfl,rfl,hown,hbel⟩:=hrel
    have hsz:=hbel.size
    by_cases hlt:j<ls.length
    · have hbl:=World.block_lt_of_cell? w _ (hc j hlt)
      have c1':=(hbel.cell (p:=⟨b,off+j,none⟩) hbl).trans (hc j hlt)
      have hxl:=zen ls j hlt
      have HI:Hid ((ls.take (j+1)).map zz=(ls.take j).map zz ++ [zz ls[j]]):=by rw[Hid,List.take_succ_eq_append_getElem hlt,List.map_append];rfl
      have hj0:(0:Int)≤(j:Int):=by omega
      have hj1:(j:Int)<(ls.length:Int):=by omega
      have hlow:∀ k,(Value.slice a1 j c1).ownBlock=some k→w.heap.size≤k:=fun k hk=>(hown.lt k hk).1
      obtain⟨x,hx⟩:∃ x,x=ls[j]:=⟨_,rfl⟩
      rw[←hx] at c1' hxl HI
      have H1:=fun W=>zwh x (by omega) W
      obtain⟨y,hy⟩:∃ y,y=zz x:=⟨_,rfl⟩
      rw[←hy] at H1 HI
      have HO1:=zc hown
      clear hc hx hy hown
      go_wp2_with fail
      refine (H1 _).mono ?_
      rintro e w2 ⟨rfl,hb2⟩
      have hown2:=zg6 HO1.out hb2
      have hbel2:=hbel.trans (hb2.mono hsz)
      have hsz2:=hbel2.size
      clear HO1 hbel hb2 H1 c1'
      go_wp2_with (at_builtin;refine wpList_append_lies _ rfl _ _ 138 rfl w.heap.size 9 i0 (.string ⟨#[]⟩) 1 16 Tryz.underlying138 hi0 hz0 hz1 hz2 rfl (by decide) (.slice a1 j c1) j _ rfl (hown2.alloc _) ⟨w2.heap.size,0,none⟩ 1 1 [.string ⟨y.toArray⟩] rfl rfl (World.news_of_block (cs:=#[.string ⟨y.toArray⟩]) (t:=9) (fr:=(0,0)) (heap_alloc_new w2 _)) (by simp[Value.oneCell']) (by omega) (by unfold maxLen;omega) (by omega) (by simp;omega) (w2.heap.size+1) (by simp) ?_;intro g2 cap2 w3 hown3 hgrow hat hlt3)
      have hbel3:Below w.heap.size w w3:=(hbel2.alloc hsz2 _).grown hgrow (by simp;omega) hlow
      have HO3:Hid (w3.ownsRow w.heap.size 9 1 (.slice (some ⟨g2,0,none⟩) (j+1) cap2) (j+1) (zh ((ls.take (j+1)).map zz))):=by rw[Hid,HI.out,zc0];exact hown3
      clear hgrow hown3 hown2 hbel2
      go_roundw
      case rel=>exact⟨j+1,cap2,some ⟨g2,0,none⟩,by omega,by go_num,rfl,HO3.out,hbel3⟩
      case measure=>simp[intOf];omega
    · have hjl:j=ls.length:=by omega
      subst hjl
      rw[List.take_length] at hown
      have hown':wr.ownsRow w.heap.size 9 1 (.slice a1 ls.length c1) (ls.map zz).length (zh (ls.map zz)):=by rw[List.length_map];exact hown
      have K:=zwg (ls.map zz) (.slice a1 ls.length c1) w.heap.size wr HF.out hown'
      rw[HO.out] at K
      clear hown hown' hc
      go_wp2_with fail
      refine K.mono ?_
      rintro e w2 ⟨rfl,hb2⟩
      go_wp2
      go_ret
      exact⟨rfl,hbel.trans (hb2.mono hsz)⟩
end Go.Proofs.YtppljdnbhoeeoaaGreatDoor
