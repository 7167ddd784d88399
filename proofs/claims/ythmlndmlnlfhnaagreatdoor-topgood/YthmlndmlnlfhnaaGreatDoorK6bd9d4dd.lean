import Derived.Stop.LaidErr
import Derived.Lib.LaidTab
import Derived.Test.YthmlndmlnlfhnaaGreatDoorK3353b41f
import Derived.Test.YthmlndmlnlfhnaaGreatDoorKea4a035d
import Derived.Test.YthmlndmlnlfhnaaGreatDoorK4f94c9e3
import Derived.Test.YthmlndmlnlfhnaaGreatDoorKc3058472
set_option maxRecDepth 100000
set_option maxHeartbeats 16000000
namespace Go.Proofs.YthmlndmlnlfhnaaGreatDoor
open Go.RowKit Go.Shelf
theorem jzr (x:SessD) (v:Value) (s:ByteArray) (w:World) (S:Nat→Prop) (h:jhb w S x v) (hS:∀ k,S k→k<w.heap.size) :
  Calls Tryz.prog 157 #[v,.string s] w fun e w'=>e = .returned (.bool (jh1 x s))∧Below w.heap.size w w':=by
 have HE:Hid (jh1 x s=(hasN x.gone s || (x.strict && (hasN x.read s || hasN x.read noS)))):=rfl
 generalize jh1 x s=R at *
 obtain ⟨vd,vt,vg,vr,rfl,y1,y2,y3,y4⟩:=h
 have YG:=Lib.hid y3
 have YR:=Lib.hid y4
 have HS:=Lib.hid hS
 obtain ⟨Ad,cd,rfl,-,-⟩:=y1.form
 obtain ⟨At,ct,rfl,-,-⟩:=y2.form
 obtain ⟨Ag,cg,rfl,-,-⟩:=y3.form
 obtain ⟨Ah,ch,rfl,-,-⟩:=y4.form
 clear y1 y2 y3 y4 hS
 have hb0:=jac w (.cells #[.bool x.opn,.bool x.strict,.int .i64 x.frm,.slice Ad x.mine.doms.length cd,.slice At x.mine.tabs.length ct,.slice Ag x.gone.length cg,.slice Ah x.read.length ch] 41)
 have C0:=Lib.hid (Cs.new w [.bool x.opn,.bool x.strict,.int .i64 x.frm,.slice Ad x.mine.doms.length cd,.slice At x.mine.tabs.length ct,.slice Ag x.gone.length cg,.slice Ah x.read.length ch] 41)
 change Hid (Cs (w.alloc (.cells #[.bool x.opn,.bool x.strict,.int .i64 x.frm,.slice Ad x.mine.doms.length cd,.slice At x.mine.tabs.length ct,.slice Ag x.gone.length cg,.slice Ah x.read.length ch] 41)) _ _) at C0
 generalize hw0:w.alloc (.cells #[.bool x.opn,.bool x.strict,.int .i64 x.frm,.slice Ad x.mine.doms.length cd,.slice At x.mine.tabs.length ct,.slice Ag x.gone.length cg,.slice Ah x.read.length ch] 41)=w0 at *
 have k1:=C0.out.at 1 rfl
 have k5:=C0.out.at 5 rfl
 have k6:=C0.out.at 6 rfl
 have keep:Hid (∀ {l:List ByteArray} {v:Value} (w':World),Below w.heap.size w w'→Sl Enc.str w S l v→Sl Enc.str w' (Old w') l v):=fun w' hb h=>(h.keep fun p hp=>hb.cell (HS.out _ hp)).more fun k hk=>by have:=HS.out k hk;have:=hb.size;show k<_;omega
 go_enter Tryz.func157,Tryz.ntmps157
 go_wp2_with fail
 clear hw0
 refine (jib x.gone _ s _ (keep.out w0 hb0 YG.out)).mono ?_
 have e1:x.gone.any (jap s)=hasN x.gone s:=rfl
 rw [e1]
 rintro e w1 ⟨rfl,hb1⟩
 have hb01:=bx hb0 hb1
 have C1:=Lib.hid (C0.out.next hb1)
 have j1:=C1.out.at 1 rfl
 have j6:=C1.out.at 6 rfl
 cases hg:hasN x.gone s
 ·cases hst:x.strict
  ·have HR:Hid (R=false):=by show _=_;rw [HE.out,hg,hst];rfl
   rw [hst] at j1
   clear hg HE
   go_wp2
   go_ret
   exact ⟨jad HR.out.symm,hb01⟩
  ·rw [hst] at j1
   go_wp2_with fail
   refine (jib x.read _ s _ (keep.out w1 hb01 YR.out)).mono ?_
   have e2:x.read.any (jap s)=hasN x.read s:=rfl
   rw [e2]
   rintro e w2 ⟨rfl,hb2⟩
   have hb02:=bx hb01 hb2
   have C2:=Lib.hid (C1.out.next hb2)
   have i6:=C2.out.at 6 rfl
   cases hr:hasN x.read s
   ·have HR:Hid (R=hasN x.read noS):=by show _=_;rw [HE.out,hg,hst,hr];simp
    clear hg HE hr
    go_wp2_with fail
    refine (jib x.read _ noS _ (keep.out w2 hb02 YR.out)).mono ?_
    have e3:x.read.any (jap noS)=hasN x.read noS:=rfl
    rw [e3]
    rintro e w3 ⟨rfl,hb3⟩
    generalize hasN x.read noS=B at *
    cases B
    ·go_wp2
     go_ret
     exact ⟨jad HR.out.symm,bx hb02 hb3⟩
    ·go_wp2
     go_ret
     exact ⟨jad HR.out.symm,bx hb02 hb3⟩
   ·have HR:Hid (R=true):=by show _=_;rw [HE.out,hg,hst,hr];rfl
    clear hg HE hr
    go_wp2
    go_ret
    exact ⟨jad HR.out.symm,hb02⟩
 ·have HR:Hid (R=true):=by show _=_;rw [HE.out,hg];rfl
  clear hg HE
  go_wp2
  go_ret
  exact ⟨jad HR.out.symm,hb01⟩
def chK (σ:StoreD) (frm k:Nat):List ByteArray:=(List.range k).flatMap fun i=>jjs (σ.ver (frm+i)) (σ.ver (frm+i+1))
theorem yfa (σ:StoreD) (frm k:Nat):chK σ frm (k+1)=chK σ frm k ++ jjs (σ.ver (frm+k)) (σ.ver (frm+k+1)):=by
 unfold chK;rw [List.range_succ,List.flatMap_append];simp
theorem yjo {σ:StoreD} (h:Inv σ) (frm:Nat):∀ k,(chK σ frm k).length≤16*k
 | 0=>by simp [chK]
 | k+1=>by
  have h1:=yjo h frm k
  have h2:(jjs (σ.ver (frm+k)) (σ.ver (frm+k+1))).length≤16:=by
   have a:=jqd (σ.ver (frm+k)) (σ.ver (frm+k+1))
   have b:=jn7 h (frm+k)
   have d:=jn7 h (frm+k+1)
   have e:=List.length_filter_le (fun s=>decide (jb2 (σ.ver (frm+k)) s≠jb2 (σ.ver (frm+k+1)) s)) (jgw [σ.ver (frm+k),σ.ver (frm+k+1)])
   unfold jjs
   omega
  rw [yfa,List.length_append];omega
theorem jzq (σ:StoreD) (c:Nat→Nat) (g:Nat) (vs:List Value) (vl:Value) (w:World) (h:StoreC w c g σ vs vl) (hv:VarsOk w) (frm:Nat) (hf:frm ≤ σ.last) :
  Calls Tryz.prog 156 #[.pointer (some ⟨g,0,none⟩),.int .i64 frm] w fun e w'=>∃ v',e = .returned v'∧OwnT w' w.heap.size v' (jk1 σ frm)∧Below w.heap.size w w':=by
 have HH:=Lib.hid h
 have HV:=Lib.hid hv
 have HCL:=Lib.hid h.lt
 have hlast:σ.last≤39:=h.inv.some_
 have HVO:=Lib.hid (jq4 h.inv)
 have HVL:=Lib.hid (jn7 h.inv)
 have HCK:=Lib.hid (yjo h.inv frm)
 have HE:Hid (jk1 σ frm=jay [] (chK σ frm (σ.last-frm))):=rfl
 generalize jk1 σ frm=R at *
 clear h hv
 go_enter Tryz.func156,Tryz.ntmps156
 go_wp2
 go_loopw [5,6] (fun u i wr=>∃ k:Nat,frm+k ≤ σ.last∧i = .int .i64 ((frm+k:Nat):Int)∧Hid (OwnT wr w.heap.size u (jay [] (chK σ frm k)))∧Below w.heap.size w wr) (fun _ i _=>σ.last-(intOf i).toNat)
 case atStart=>exact ⟨0,by omega,by go_num,OwnT.nil,Below.refl _ _⟩
 case round =>
  obtain ⟨k,hk,rfl,HO,hbl⟩:=hrel
  have Hr:=Lib.hid (HH.out.next hbl)
  generalize hLL:σ.last=L at *
  have HLS:Hid (∀ W,StoreC W c g σ vs vl→Calls Tryz.prog 45 #[.pointer (some ⟨g,0,none⟩)] W fun e w'=>e = .returned (.int .i64 L)∧w'=W):=fun W hW=>by have:=jgr σ c g vs vl W hW;rw [hLL] at this;exact this
  go_wp2_with fail
  refine (HLS.out _ Hr.out).mono ?_
  rintro e w0 ⟨rfl,rfl⟩
  by_cases hlt:frm+k<L
  ·have hcmp:((frm+k:Nat):Int)<(L:Int):=by omega
   obtain ⟨MM,hMM⟩:∃ MM:Int,MM=((frm+k+1:Nat):Int):=⟨_,rfl⟩
   have hwn:IntKind.i64.wrap (((frm+k:Nat):Int)+1)=MM:=by rw [IntKind.wrap_i64,hMM];omega
   have hNp:(0:Int)≤((frm+k:Nat):Int):=by omega
   have HMM:=Lib.hid hMM
   clear hMM
   generalize hNN:((frm+k:Nat):Int)=NN at *
   have HNN:=Lib.hid hNN
   clear hNN
   have HVER:Hid (∀ (W:World) (N:Int) (m:Nat),N=(m:Int)→m≤L→StoreC W c g σ vs vl→Calls Tryz.prog 47 #[.pointer (some ⟨g,0,none⟩),.int .i64 N] W fun e w'=>∃ vd vt,e = .returned (.agg #[vd,vt])∧jar w' (Im c) (σ.ver m) (.agg #[vd,vt])∧Below W.heap.size W w'):=fun W N m hN hm hW=>by subst hN;exact jgs σ c g vs vl W hW m (by omega)
   go_wp2_with fail
   refine (HVER.out _ _ (frm+k) HNN.out.symm (by omega) Hr.out).mono ?_
   rintro e w1 ⟨ud,ut,rfl,hu1,hb1⟩
   have HU1:=Lib.hid hu1
   obtain ⟨qd,qt,eq,s1,s2⟩:=hu1
   injection eq with eq;injection eq with eq;injection eq with eq1 eq2;injection eq2 with eq2 _
   subst eq1 eq2
   obtain ⟨A1,c1,rfl,-,-⟩:=s1.form
   obtain ⟨B1,d1,rfl,-,-⟩:=s2.form
   clear s1 s2
   have hb01:=bx hbl hb1
   have H1:=Lib.hid (HH.out.next hb01)
   go_wp2_with fail
   refine (HVER.out _ _ (frm+k+1) HMM.out (by omega) H1.out).mono ?_
   rintro e w2 ⟨vd2,vt2,rfl,hu2,hb2⟩
   have HU2:=Lib.hid hu2
   obtain ⟨qd,qt,eq,s1,s2⟩:=hu2
   injection eq with eq;injection eq with eq;injection eq with eq1 eq2;injection eq2 with eq2 _
   subst eq1 eq2
   obtain ⟨A2,c2,rfl,-,-⟩:=s1.form
   obtain ⟨B2,d2,rfl,-,-⟩:=s2.form
   clear s1 s2
   have hb02:=bx hb01 hb2
   have hC11:∀ k,Im c k→k<w2.heap.size:=fun k hk=>by have:=HCL.out k (by rw [show c k=11 from hk];decide);have:=hb02.size;omega
   have HU1':Hid (jar w2 (Im c) (σ.ver (frm+k)) _):=HU1.out.keepS (w':=w2) (fun q hq=>hb2.block q (by have:=HCL.out q (by rw [show c q=11 from hq];decide);have:=hb01.size;omega))
   have VA:=Lib.hid (HVO.out (frm+k))
   have VB:=Lib.hid (HVO.out (frm+k+1))
   have vla:=HVL.out (frm+k)
   have vlb:=HVL.out (frm+k+1)
   have HNX:Hid (chK σ frm (k+1)=chK σ frm k ++ jjs (σ.ver (frm+k)) (σ.ver (frm+k+1))):=yfa σ frm k
   have hpre:=HCK.out k
   generalize hva:σ.ver (frm+k)=va at *
   generalize hvb:σ.ver (frm+k+1)=vb at *
   have hb3:=jac w2 (.cells #[.slice A1 va.doms.length c1,.slice B1 va.tabs.length d1] 38)
   have D3:=Lib.hid (Cs.new w2 [.slice A1 va.doms.length c1,.slice B1 va.tabs.length d1] 38)
   have hz3:(w2.alloc (.cells #[.slice A1 va.doms.length c1,.slice B1 va.tabs.length d1] 38)).heap.size=w2.heap.size+1:=by simp
   change Hid (Cs (w2.alloc (.cells #[.slice A1 va.doms.length c1,.slice B1 va.tabs.length d1] 38)) _ _) at D3
   have hb4:=jac (w2.alloc (.cells #[.slice A1 va.doms.length c1,.slice B1 va.tabs.length d1] 38)) (.cells #[.slice A2 vb.doms.length c2,.slice B2 vb.tabs.length d2] 38)
   have D4:=Lib.hid (Cs.new (w2.alloc (.cells #[.slice A1 va.doms.length c1,.slice B1 va.tabs.length d1] 38)) [.slice A2 vb.doms.length c2,.slice B2 vb.tabs.length d2] 38)
   have hz4:((w2.alloc (.cells #[.slice A1 va.doms.length c1,.slice B1 va.tabs.length d1] 38)).alloc (.cells #[.slice A2 vb.doms.length c2,.slice B2 vb.tabs.length d2] 38)).heap.size=w2.heap.size+2:=by simp
   change Hid (Cs ((w2.alloc (.cells #[.slice A1 va.doms.length c1,.slice B1 va.tabs.length d1] 38)).alloc (.cells #[.slice A2 vb.doms.length c2,.slice B2 vb.tabs.length d2] 38)) _ _) at D4
   rw [hz3] at D4
   have D34:=Lib.hid (D3.out.next hb4)
   have hb24:=bx hb3 hb4
   have a0:=D34.out.at 0 rfl
   have a1:=D34.out.at 1 rfl
   have b0:=D4.out.at 0 rfl
   have b1:=D4.out.at 1 rfl
   go_wp2_with fail
   generalize hw4:((w2.alloc (.cells #[.slice A1 va.doms.length c1,.slice B1 va.tabs.length d1] 38)).alloc (.cells #[.slice A2 vb.doms.length c2,.slice B2 vb.tabs.length d2] 38))=w4 at *
   clear hb3 hb4
   have hb04:=bx hb02 hb24
   have BA4:Hid (jar w4 (Im c) va _):=HU1'.out.keepS (w':=w4) (fun q hq=>hb24.block q (hC11 q hq))
   have BB4:Hid (jar w4 (Im c) vb _):=HU2.out.keepS (w':=w4) (fun q hq=>hb24.block q (hC11 q hq))
   have hC4:∀ k,Im c k→k<w4.heap.size:=fun k hk=>by have:=hC11 k hk;omega
   have hsl:=ycs 38 BA4.out BB4.out hC4
   rw [hz4] at hsl
   have HSL:=Lib.hid hsl
   clear hsl
   have hb5:=jac w4 (.cells #[.slice A1 va.doms.length c1,.slice B1 va.tabs.length d1,.slice A2 vb.doms.length c2,.slice B2 vb.tabs.length d2] 38)
   clear hw4
   refine (jvi [va,vb] _ _ _ HSL.out (fun _ hk=>hk) (by simp [jdp];omega)).mono ?_
   rintro e w6 ⟨v6,rfl,ho6,hb6⟩
   have HO6:=Lib.hid ho6
   obtain ⟨A6,c6,rfl,-,-,-⟩:=jah ho6
   have hb46:=bx hb5 hb6
   have hb06:=bx hb04 hb46
   have hnl:(jgw [va,vb]).length≤16:=by have:=jqd va vb;omega
   have HCH:Hid (jjs va vb=(jgw [va,vb]).filter fun s=>decide (jb2 va s≠jb2 vb s)):=rfl
   generalize hNM:jgw [va,vb]=NM at *
   have D36:=Lib.hid (D34.out.next hb46)
   have D46:=Lib.hid (D4.out.next hb46)
   have HOp:Hid (OwnT w6 w.heap.size u5 (jay [] (chK σ frm k))):=HO.out.keep (fun q hq=>(bx (bx hb1 hb2) (bx hb24 hb46)).block q (HO.out.lt q hq).2)
   have HOL:Hid (∀ q,u5.ownBlock=some q→q<w2.heap.size):=fun q hq=>by have:=(HO.out.lt q hq).2;have:=hb1.size;have:=hb2.size;omega
   have HL6:Hid (∀ q,(Value.slice A6 NM.length c6).ownBlock=some q→w4.heap.size<q∧q<w6.heap.size):=fun q hq=>by have:=HO6.out.lt q hq;simp at this;exact ⟨by omega,this.2⟩
   generalize hPK:chK σ frm k=PK at *
   have hs46:=hb46.size
   clear ho6 a0 a1 b0 b1
   go_wp2
   go_loopw [5,30] (fun u i wr=>∃ j:Nat,j≤NM.length∧i = .int .i64 j∧Hid (OwnT wr w.heap.size u (jay [] (PK ++ (NM.take j).filter fun s=>decide (jb2 va s≠jb2 vb s))))∧Hid (∀ q,u.ownBlock=some q→q<w2.heap.size∨w6.heap.size≤q)∧Below w.heap.size w wr∧Hid (∀ q,w2.heap.size≤q→q<w6.heap.size→wr.heap[q]? = w6.heap[q]?)∧w6.heap.size≤wr.heap.size) (fun _ i _=>NM.length-(intOf i).toNat)
   case atStart=>exact ⟨0,Nat.zero_le _,rfl,by simpa using HOp,fun q hq=>.inl (HOL.out q hq),hb06,fun _ _ _=>rfl,Nat.le_refl _⟩
   case round =>
    clear HOp HOL
    obtain ⟨j,hj,rfl,HOj,HLj,hbj,HKj,hsj⟩:=hrel
    by_cases hjl:j<NM.length
    ·have hOW:OwnT wr (w4.alloc (.cells #[.slice A1 va.doms.length c1,.slice B1 va.tabs.length d1,.slice A2 vb.doms.length c2,.slice B2 vb.tabs.length d2] 38)).heap.size (.slice A6 NM.length c6) NM:=HO6.out.keep (fun b hb=>HKj.out b (by have:=(HL6.out b hb).1;omega) (HL6.out b hb).2)
     obtain ⟨bb,o,s,rfl,_,hs,e1⟩:=(hOW.sl (S:=fun _=>True) (fun _ _=>trivial)).str_at hjl
     have E3:=Lib.hid (D36.out.keep (HKj.out _ (Nat.le_refl _) D36.out.1) hsj)
     have E4:=Lib.hid (D46.out.keep (HKj.out _ (by omega) D46.out.1) hsj)
     have hCI:∀ q,Im c q→wr.heap[q]? = w2.heap[q]?:=fun q hq=>by
      have hqw:=HCL.out q (by rw [show c q=11 from hq];decide)
      rw [hbj.block q hqw,hb02.block q hqw]
     have hCr:∀ q,Im c q→q<wr.heap.size:=fun q hq=>by have:=HCL.out q (by rw [show c q=11 from hq];decide);have:=hbj.size;omega
     have BAr:Hid (jar wr (Old wr) va (.agg #[.slice A1 va.doms.length c1,.slice B1 va.tabs.length d1])):=(HU1'.out.keepS (w':=wr) hCI).moreS hCr
     have BBr:Hid (jar wr (Old wr) vb (.agg #[.slice A2 vb.doms.length c2,.slice B2 vb.tabs.length d2])):=(HU2.out.keepS (w':=wr) hCI).moreS hCr
     have HVr:=Lib.hid (HV.out.next hbj)
     have X0:wr.drew.cell? ⟨w2.heap.size,0,none⟩=some (.slice A1 va.doms.length c1)∧wr.drew.cell? ⟨w2.heap.size,1,none⟩=some (.slice B1 va.tabs.length d1)∧wr.drew.cell? ⟨w2.heap.size+1,0,none⟩=some (.slice A2 vb.doms.length c2)∧wr.drew.cell? ⟨w2.heap.size+1,1,none⟩=some (.slice B2 vb.tabs.length d2):=⟨E3.out.at 0 rfl,E3.out.at 1 rfl,E4.out.at 0 rfl,E4.out.at 1 rfl⟩
     have BArd:Hid (jar wr.drew (Old wr.drew) va (.agg #[.slice A1 va.doms.length c1,.slice B1 va.tabs.length d1])):=(BAr.out.keepS (w':=wr.drew) (fun _ _=>rfl)).moreS (fun _ hk=>hk)
     have HVrd:Hid (VarsOk wr.drew):=HVr.out.next (w':=wr.drew) ((Below.refl _ _).drew)
     have HFT:=Lib.hid (jcr (p:=fun s=>decide (jb2 va s≠jb2 vb s)) hs.out)
     have hrl:(jay [] (PK ++ (NM.take j).filter fun s=>decide (jb2 va s≠jb2 vb s))).length≤1000000:=by
      have h1:=@jds (PK ++ (NM.take j).filter fun s=>decide (jb2 va s≠jb2 vb s)) []
      have h2:(NM.take j).length≤NM.length:=(List.take_sublist _ _).length_le
      have h3:=List.length_filter_le (fun s=>decide (jb2 va s≠jb2 vb s)) (NM.take j)
      simp only [List.length_append,List.length_nil] at h1
      omega
     have hri:Hid (jo2 (jay [] (PK ++ (NM.take j).filter fun s=>decide (jb2 va s≠jb2 vb s)))=true):=jen rfl
     have HSM:=Lib.hid (jk9 [] (PK ++ (NM.take j).filter fun s=>decide (jb2 va s≠jb2 vb s)) s)
     have hwr:=hbj.size
     have E3l:=D36.out.1
     have E4l:=D46.out.1
     go_wp2_with fail
     have x0:=X0.1
     have x1:=X0.2.1
     have y0:=X0.2.2.1
     have y1:=X0.2.2.2
     clear X0
     go_region_law (first
      | (go_simp;have qq:=BArd.out;clear BArd;go_at_call 30;refine (jne va s (.agg #[.slice A1 va.doms.length c1,.slice B1 va.tabs.length d1]) wr.drew qq (jh6 VA.out) HVrd.out).mono ?_;clear qq;rintro e7 w7 ⟨rfl,hb7'⟩;have hb7:Below wr.heap.size wr w7:=jcw hb7';have x2:=(hb7.cell (p:=⟨w2.heap.size,0,none⟩) (by show w2.heap.size<_;omega)).trans x0;have x3:=(hb7.cell (p:=⟨w2.heap.size,1,none⟩) (by show w2.heap.size<_;omega)).trans x1;have y2:=(hb7.cell (p:=⟨w2.heap.size+1,0,none⟩) (by show w2.heap.size+1<_;omega)).trans y0;have y3:=(hb7.cell (p:=⟨w2.heap.size+1,1,none⟩) (by show w2.heap.size+1<_;omega)).trans y1;have BB7:=Lib.hid (BBr.out.onOld hb7);have HV7:=Lib.hid (HVr.out.next hb7);have hs7:=hb7.size;clear hb7')
      | (go_simp;go_at_call 30;refine (jne vb s (.agg #[.slice A2 vb.doms.length c2,.slice B2 vb.tabs.length d2]) w7 BB7.out (jh6 VB.out) HV7.out).mono ?_;rintro e8 w8 ⟨rfl,hb8⟩))
     all_goals clear x0 x1 x2 x3 y0 y1 y2 y3
     all_goals
      have hb78:=bx hb7 hb8
      have hbj8:=bx hbj hb78
      have hs78:=hb78.size
      have HOj8:Hid (OwnT w8 w.heap.size u5 (jay [] (PK ++ (NM.take j).filter fun s=>decide (jb2 va s≠jb2 vb s)))):=HOj.out.keep (fun q hq=>hb78.block q (HOj.out.lt q hq).2)
      have HKj8:Hid (∀ q,w2.heap.size≤q→q<w6.heap.size→w8.heap[q]? = w6.heap[q]?):=fun q h1 h2=>(hb78.block q (by omega)).trans (HKj.out q h1 h2)
      have hltj:=HOj8.out.lt
      by_cases hd:jb2 va s=jb2 vb s
      ·have HT':Hid ((NM.take (j+1)).filter (fun s=>decide (jb2 va s≠jb2 vb s))=(NM.take j).filter fun s=>decide (jb2 va s≠jb2 vb s)):=by show _=_;rw [HFT.out];simp [hd]
       have hq3:(!((bs (jb2 va s)).toList == (bs (jb2 vb s)).toList))=false:=by rw [hd];simp
       rw [hq3]
       clear hd hq3 HFT
       go_wp2
       refine ⟨⟨j+1,by omega,by go_num,?_,HLj,hbj8,HKj8,by omega⟩,by simp [intOf];omega⟩
       rw [HT'.out];exact HOj8
      ·have HT':Hid ((NM.take (j+1)).filter (fun s=>decide (jb2 va s≠jb2 vb s))=((NM.take j).filter fun s=>decide (jb2 va s≠jb2 vb s)) ++ [s]):=by show _=_;rw [HFT.out];simp [hd]
       have hq3:(!((bs (jb2 va s)).toList == (bs (jb2 vb s)).toList))=true:=by
        have hne:¬ (bs (jb2 va s)).toList=(bs (jb2 vb s)).toList:=fun e=>hd (by rw [ByteArray.toList_eq,ByteArray.toList_eq,jdb,jdb] at e;exact e)
        have hq1:((bs (jb2 va s)).toList == (bs (jb2 vb s)).toList)=false:=by rw [beq_eq_false_iff_ne];exact hne
        rw [hq1];rfl
       rw [hq3]
       clear hd hq3 HFT
       generalize hFL:PK ++ ((NM.take j).filter fun s=>decide (jb2 va s≠jb2 vb s))=FL at *
       have HFL:=Lib.hid hFL
       clear hFL
       go_wp2_with fail
       refine (jep (jay [] FL) _ s _ w.heap.size HOj8.out hri.out hrl (by have:=hbj8.size;omega)).mono ?_
       rintro e w9 ⟨v9,rfl,ho9,hg9,hm9⟩
       have HO9:=Lib.hid ho9
       have hs9:=hg9.size
       have HL9:Hid (∀ q,v9.ownBlock=some q→q<w2.heap.size∨w6.heap.size≤q):=fun q hq=>by
        rcases hm9 q hq with h | h
        ·exact HLj.out q h
        ·exact .inr (by omega)
       have hb9:Below w.heap.size w w9:=hbj8.trans (jag hg9 (by have:=hbj8.size;omega) (fun q hq=>(hltj q hq).1))
       have HK9:Hid (∀ q,w2.heap.size≤q→q<w6.heap.size→w9.heap[q]? = w6.heap[q]?):=fun q h1 h2=>(hg9.block q (by omega) (fun e=>by have:=HLj.out q e.symm;omega)).trans (HKj8.out q h1 h2)
       clear ho9 hg9 hm9
       go_wp2
       refine ⟨⟨j+1,by omega,by go_num,?_,HL9,hb9,HK9,by omega⟩,by simp [intOf];omega⟩
       rw [HT'.out,← List.append_assoc,HFL.out,HSM.out];exact HO9
    ·obtain rfl:j=NM.length:=by omega
     rw [List.take_of_length_le (Nat.le_refl _),← HCH.out] at HOj
     have HOK:Hid (OwnT wr w.heap.size u5 (jay [] (chK σ frm (k+1)))):=by
      show OwnT _ _ _ _
      rw [HNX.out];exact HOj.out
     have hnn:=HNN.out
     have hmm:=HMM.out
     go_wp2
     refine ⟨⟨k+1,by omega,?_,HOK,hbj⟩,?_⟩
     ·first | go_num | (congr 1;omega)
     ·simp [intOf];omega
  ·obtain rfl:L=frm+k:=by omega
   have hcmp:¬ ((frm+k:Nat):Int)<((frm+k:Nat):Int):=by omega
   have hek:frm+k-frm=k:=by omega
   rw [hek] at HE
   go_wp2
   go_ret
   rw [HE.out]
   exact ⟨_,rfl,HO.out,hbl⟩
open Go.RowKit Go.Shelf
theorem jv6 (σ:StoreD) (c:Nat→Nat) (g:Nat) (vs:List Value) (vl:Value) (x:SessD) (v:Value) (w:World) (S:Nat→Prop) (h:StoreC w c g σ vs vl) (hv:VarsOk w) (hx:jhb w S x v) (hS:∀ k,S k→k<w.heap.size) (hf:x.frm ≤ σ.last) :
  Calls Tryz.prog 117 #[.pointer (some ⟨g,0,none⟩),v] w fun e w'=>e = .returned (.tuple #[.string ((jh0 σ x).getD noS),.bool (jh0 σ x).isSome])∧Below w.heap.size w w':=by
 have HH:=Lib.hid h
 have HX:=Lib.hid hx
 have HS:=Lib.hid hS
 have HV:=Lib.hid hv
 have HE:Hid (jh0 σ x=(jk1 σ x.frm).find? (jh1 x)):=rfl
 generalize jh0 σ x=R at *
 obtain ⟨vd,vt,vg,vr,rfl,y1,y2,y3,y4⟩:=hx
 obtain ⟨Ad,cd,rfl,-,-⟩:=y1.form
 obtain ⟨At,ct,rfl,-,-⟩:=y2.form
 obtain ⟨Ag,cg,rfl,-,-⟩:=y3.form
 obtain ⟨Ah,ch,rfl,-,-⟩:=y4.form
 clear y1 y2 y3 y4 hS h hv
 have hb0:=jac w (.cells #[.bool x.opn,.bool x.strict,.int .i64 x.frm,.slice Ad x.mine.doms.length cd,.slice At x.mine.tabs.length ct,.slice Ag x.gone.length cg,.slice Ah x.read.length ch] 41)
 have C0:=Lib.hid (Cs.new w [.bool x.opn,.bool x.strict,.int .i64 x.frm,.slice Ad x.mine.doms.length cd,.slice At x.mine.tabs.length ct,.slice Ag x.gone.length cg,.slice Ah x.read.length ch] 41)
 have hz0:(w.alloc (.cells #[.bool x.opn,.bool x.strict,.int .i64 x.frm,.slice Ad x.mine.doms.length cd,.slice At x.mine.tabs.length ct,.slice Ag x.gone.length cg,.slice Ah x.read.length ch] 41)).heap.size=w.heap.size+1:=by simp
 change Hid (Cs (w.alloc (.cells #[.bool x.opn,.bool x.strict,.int .i64 x.frm,.slice Ad x.mine.doms.length cd,.slice At x.mine.tabs.length ct,.slice Ag x.gone.length cg,.slice Ah x.read.length ch] 41)) _ _) at C0
 generalize hw0:w.alloc (.cells #[.bool x.opn,.bool x.strict,.int .i64 x.frm,.slice Ad x.mine.doms.length cd,.slice At x.mine.tabs.length ct,.slice Ag x.gone.length cg,.slice Ah x.read.length ch] 41)=w0 at *
 have k2:=C0.out.at 2 rfl
 have H0:=Lib.hid (HH.out.next hb0)
 have HV0:=Lib.hid (HV.out.next hb0)
 go_enter Tryz.func117,Tryz.ntmps117
 go_wp2_with fail
 clear hw0 k2
 refine (jzq σ c g vs vl _ H0.out HV0.out x.frm hf).mono ?_
 rintro e w1 ⟨v1,rfl,ho1,hb1⟩
 have HO1:=Lib.hid ho1
 obtain ⟨A1,c1,rfl,hd1,hd2,-⟩:=jah ho1
 unfold maxLen at hd2
 have hb01:=bx hb0 hb1
 have C1:=Lib.hid (C0.out.next hb1)
 generalize hCH:jk1 σ x.frm=CH at *
 clear ho1
 go_wp2
 go_loopw [13] (fun i wr=>∃ k:Nat,k≤CH.length∧i = .int .i64 k∧Hid ((CH.take k).find? (jh1 x)=none)∧Below w1.heap.size w1 wr) (fun i _=>CH.length-(intOf i).toNat)
 case atStart=>exact ⟨0,Nat.zero_le _,rfl,rfl,Below.refl _ _⟩
 case round =>
  obtain ⟨k,hk,rfl,HF,hbl⟩:=hrel
  have hb0r:=bx hb01 hbl
  by_cases hlt:k<CH.length
  ·have hOW:OwnT wr w0.heap.size (.slice A1 CH.length c1) CH:=HO1.out.keep (fun b hb=>hbl.block b (HO1.out.lt b hb).2)
   obtain ⟨bb,o,s,rfl,_,hs,d1⟩:=(hOW.sl (S:=fun _=>True) (fun _ _=>trivial)).str_at hlt
   have CB:=Lib.hid (C1.out.next hbl)
   have i0:=CB.out.at 0 rfl
   have i1:=CB.out.at 1 rfl
   have i2:=CB.out.at 2 rfl
   have i3:=CB.out.at 3 rfl
   have i4:=CB.out.at 4 rfl
   have i5:=CB.out.at 5 rfl
   have i6:=CB.out.at 6 rfl
   have HXr:=Lib.hid (HX.out.keepS (w':=wr) (fun k hk=>hb0r.block k (HS.out k hk)))
   go_wp2_with fail
   refine (jzr x _ s _ S HXr.out (fun k hk=>by have:=HS.out k hk;have:=hb0r.size;omega)).mono ?_
   rintro e w2 ⟨rfl,hb2⟩
   have hbl2:=bx hbl hb2
   cases hq:jh1 x s
   ·have HN:=Lib.hid (jf3 HF.out hs.out hq)
    clear hq
    go_wp2
    exact ⟨⟨k+1,by omega,by go_num,HN,hbl2⟩,by simp [intOf];omega⟩
   ·have HR:Hid (R=some s):=by show _=_;rw [HE.out];exact jlk HF.out hs.out hq
    clear hq HE
    go_wp2
    go_ret2
    rw [HR.out]
    exact ⟨rfl,bx hb01 hbl2⟩
  ·obtain rfl:k=CH.length:=by omega
   rw [List.take_of_length_le (Nat.le_refl _)] at HF
   have HR:Hid (R=none):=by show _=_;rw [HE.out];exact HF.out
   clear HE
   go_wp2
   go_ret2
   rw [HR.out]
   exact ⟨rfl,hb0r⟩
open Go.RowKit Go.Shelf
theorem jzn {α:Type} {E:Enc α} {P:Program} {ops:Array Oper} {o:Oper} {a:Act} {w:World} {K:Act→World→Prop} {Q:Exit→Act→World→Prop} {X:Prop}
  (hg:o.guard=none) (s x:Operand) (t:TypeId) (ho:o.op=Op.call { callee:=Callee.builtin Builtin.append,args:=#[s,x],argTypes:=#[t,t] })
  (base:Nat) (S:Nat→Prop) (e:TypeId) (bytes:Nat) (z:Value) (ht:P.underlying t=some (.slice e)) (hinfo:(P.info? e).map (fun i=>(i.zero,i.size,i.bytes))=some (some z,E.size,bytes)) (hzs:z.cells.size=E.size) (hsz:0<E.size)
  (v:Value) (l:List α) (hs:a.eval s=v) (hown:OwnS E w base S e v l)
  (ad:Addr) (y:α) (cs:List Value) (hx:a.eval x = .slice (some ad) 1 1) (hy:E.rd w S y cs) (hnews:∀ j u,cs[j]? = some u→w.cell? (ad.add j)=some u) (hS:∀ k,S k→k<w.heap.size∧v.ownBlock≠some k)
  (hbytes:(l.length+1)*bytes≤140737488355328) (h63:l.length+1≤maxLen) (hbase:base≤w.heap.size)
  (h:∀ v' w',OwnS E w' base S e v' (l ++ [y])→w.grownBy w' v.ownBlock→jed w v v'→K (a.put o.dst v') w') :
  if Region.wanted o (yielded ops a.tmps)=true then Oper.wp P o a w K Q else X:=by
 have hw:Region.wanted o (yielded ops a.tmps)=true:=by simp [Region.wanted,hg]
 rw [if_pos hw]
 obtain ⟨us,h1,h2⟩:=hown
 obtain ⟨v',w',hr,ho',hg',hmv⟩:=jia (P:=P) w base t o.type e E.size bytes z ht hinfo hzs hsz v l.length us h1 ad 1 1 cs (by rw [E.len hy];omega) hnews (E.one hy) h63 hbytes hbase
 unfold Oper.wp execOp
 simp only [ho,resolve,invoke,builtin,Sem.run_bind,Sem.run_pure,Result.andThen_ok,List.map_toArray,List.map_cons,List.map_nil,hs,hx,hr]
 refine h v' w' ⟨us ++ cs,by rw [List.length_append];exact ho',?_⟩ hg' hmv
 exact ((h2.append (jb9.one hy) h1.1).keep (w':=w') fun p hp=>World.cell?_of_block (hg'.block _ (hS _ hp).1 fun e=>(hS _ hp).2 e.symm))
theorem StoreC.committed {w w5 w6:World} {c:Nat→Nat} {g lo:Nat} {σ:StoreD} {vs:List Value} {vl v6:Value} {b:BookD} {S:Nat→Prop} (h:StoreC w c g σ vs vl) (hlo:w.heap.size≤lo) (hlo2:lo≤w5.heap.size) (hb5:Below w.heap.size w w5)
  (hS:∀ k,S k→Im c k∨(lo≤k∧k<w5.heap.size)) (hO:OwnS Enc.book w6 0 S 38 v6 (σ.later ++ [b])) (hg:w5.grownBy w6 vl.ownBlock) (hm:jed w5 vl v6) (hI:Inv ⟨σ.later ++ [b],σ.sess,σ.acts⟩) :
  ∃ c',StoreC (w6.setCell ⟨g,0,none⟩ v6) c' g ⟨σ.later ++ [b],σ.sess,σ.acts⟩ (vs.set 0 v6) v6∧(∀ k,k<lo→c' k=c k)∧Fr c w (w6.setCell ⟨g,0,none⟩ v6):=by
 have hgl:g<w.heap.size:=h.cs.1
 have hgC:∀ b,c b≠1→b≠g:=fun b hb e=>hb (by rw [e];exact h.col)
 have hz5:=hb5.size
 have hz6:=hg.size
 have hvl:∀ b,vl.ownBlock=some b→c b=2:=h.rowC
 have hgv:vl.ownBlock≠some g:=fun e=>by have:=hvl g e;rw [h.col] at this;omega
 have h7:∀ b,b≠g→(w6.setCell ⟨g,0,none⟩ v6).heap[b]? = w6.heap[b]?:=fun b hb=>RowKit.Below.heap_setCell _ _ _ _ hb
 have hz7:(w6.setCell ⟨g,0,none⟩ v6).heap.size=w6.heap.size:=by simp [World.setCell]
 have hlen:=h.len
 have hcw:∀ b,c b≠0→b<w.heap.size:=h.lt
 have hvb:∀ b,v6.ownBlock=some b→(b<w.heap.size∧c b=2)∨w5.heap.size≤b:=fun b hb=>by
  rcases hm b hb with e | e
  ·exact .inl ⟨hcw b (by rw [hvl b e];decide),hvl b e⟩
  ·exact .inr e
 let c':Nat→Nat:=fun b=>if v6.ownBlock=some b then 2 else jf9 c lo w5.heap.size 11 b
 have hpc:∀ b,v6.ownBlock≠some b→c' b=jf9 c lo w5.heap.size 11 b:=fun b hb=>if_neg hb
 have hpv:∀ b,v6.ownBlock=some b→c' b=2:=fun b hb=>if_pos hb
 have hold:∀ b,b<lo→c' b=c b:=fun b hb=>by
  by_cases e:v6.ownBlock=some b
  ·rw [hpv b e]
   rcases hvb b e with h | h
   ·exact h.2.symm
   ·omega
  ·rw [hpc b e];exact ju2 hb
 have hkeep:∀ b,c b≠0→c b≠1→c b≠2→(w6.setCell ⟨g,0,none⟩ v6).heap[b]? = w.heap[b]? ∧ c' b=c b:=fun b h0 h1 h2=>by
  have hb:=hcw b h0
  exact ⟨(h7 b (hgC b h1)).trans ((hg.block b (by omega) (fun e=>h2 (hvl b e.symm))).trans (hb5.block b hb)),hold b (by omega)⟩
 have hnew:∀ b,lo≤b→b<w5.heap.size→c' b=11∧b≠g:=fun b h1 h2=>by
  refine ⟨?_,by omega⟩
  rw [hpc b (fun e=>by rcases hvb b e with h | h <;> omega)]
  exact yb5 h1 h2
 have hS11:∀ b,S b→c' b=11∧b≠g:=fun b hb=>by
  rcases hS b hb with hb | hb
  ·have e:c b=11:=hb
   exact ⟨((hkeep b (by omega) (by omega) (by omega)).2).trans e,hgC b (by omega)⟩
  ·exact hnew b hb.1 hb.2
 refine ⟨c',?_,hold,?_⟩
 ·exact
  {cs:=((h.cs.next hb5).grownO hg hgv).set 0 (by omega) _
   len:=by simp [hlen]
   col:=by rw [hold g (by omega)];exact h.col
   lt:=fun b hb=>by
    rw [hz7]
    by_cases e:v6.ownBlock=some b
    ·exact (hO.lt b e).2
    ·rw [hpc b e] at hb
     unfold jf9 at hb
     split at hb
     ·omega
     ·have:=hcw b hb;omega
   row:=(hO.keep (fun k hk=>h7 k (fun e=>by
     rcases hvb k hk with h' | h'
     ·rw [e,h.col] at h';omega
     ·omega)) (fun k hk=>h7 k (hS11 k hk).2)).more fun k hk=>(hS11 k hk).1
   rowC:=fun b hb=>hpv b hb
   v0:=by rw [List.getElem?_set_self (by omega)]
   sess:=fun n x hx=>by
    have hx':σ.sess[n]? = some x:=hx
    have hn:n<4:=by have:=(List.getElem?_eq_some_iff.1 hx').1;have:=h.inv.four;omega
    obtain ⟨vd,vt,vg,vr,h1,h2⟩:=h.sess n x hx
    refine ⟨vd,vt,vg,vr,h1.keep fun b hb=>hkeep b (by omega) (by omega) (by omega),fun j v hj=>?_⟩
    rw [List.getElem?_set_ne (by omega)]
    exact h2 j v hj
   acts:=by rw [List.getElem?_set_ne (by decide)];exact h.acts
   inv:=hI
   one:=fun b hb=>by
    by_cases e:v6.ownBlock=some b
    ·rw [hpv b e] at hb;omega
    ·rw [hpc b e] at hb
     unfold jf9 at hb
     split at hb
     ·omega
     ·exact h.one b hb }
 ·refine ⟨?_,?_,?_,by omega,fun b hb h0=>?_⟩
  ·show w6.os=_;rw [hg.os];exact hb5.os
  ·show w6.tape=_;rw [hg.tape];exact hb5.tape
  ·show w6.output=_;rw [hg.output];exact hb5.output
  ·have hbg:b≠g:=fun e=>by rw [e,h.col] at h0;omega
   rw [h7 b hbg,hg.block b (by omega) (fun e=>by have:=hvl b e.symm;omega),hb5.block b hb]
open Go.RowKit Go.Shelf
theorem ye5:Tryz.prog.underlying 32=some (.slice 38):=by kernel_rfl
theorem yjh:(Tryz.prog.info? 38).map (fun i=>(i.zero,i.size,i.bytes))=some (some (.agg #[.slice none 0 0,.slice none 0 0]),2,48):=by kernel_rfl
theorem jwn (w:World) (x y:Value) (e:Nat):∀ j q,[x,y][j]? = some q→(w.alloc (.cells #[x,y] e)).cell? ((⟨w.heap.size,0,none⟩:Addr).add j)=some q:=by
 intro j q hq
 rw [Addr.add_lit,Nat.zero_add]
 exact jab _ _ _ _ _ (by simpa using hq)
structure Boxed (w3 w6:World) (q lo hi:Nat) (V:BookD) (x y:Value):Prop where
 cells:Cs w6 q [x,y]
 below:Below w3.heap.size w3 w6
 book:jar w6 (fun k=>lo≤k∧k<hi) V (.agg #[x,y])
 at_:w3.heap.size≤q∧q<w6.heap.size
 off:q<lo∨hi≤q
 lo_:w3.heap.size≤lo
 hi_:hi≤w6.heap.size
theorem Boxed.put {w3 w5:World} {q lo:Nat} {V:BookD} {a1 a2 x y:Value} (hz:Cs w5 q [a1,a2]) (hb:Below w3.heap.size w3 w5) (hq:w3.heap.size≤q) (hU:jar w5 (From lo w5) V (.agg #[x,y])) (hql:q<lo) (hq5:q<w5.heap.size) :
  Boxed w3 ((w5.setCell ⟨q,0,none⟩ x).setCell ⟨q,1,none⟩ y) q lo w5.heap.size V x y:=by
 have h2:Below q w5 ((w5.setCell ⟨q,0,none⟩ x).setCell ⟨q,1,none⟩ y):=(jal ..).trans (jal ..)
 have hs:((w5.setCell ⟨q,0,none⟩ x).setCell ⟨q,1,none⟩ y).heap.size=w5.heap.size:=by simp [World.setCell]
 have hne:∀ k,k≠q→((w5.setCell ⟨q,0,none⟩ x).setCell ⟨q,1,none⟩ y).heap[k]? = w5.heap[k]?:=fun k hk=>by
  rw [RowKit.Below.heap_setCell _ _ _ _ hk,RowKit.Below.heap_setCell _ _ _ _ hk]
 exact ⟨(hz.set 0 (by simp) x).set 1 (by simp) y,⟨h2.os.trans hb.os,h2.tape.trans hb.tape,h2.output.trans hb.output,Nat.le_trans hb.size h2.size,fun k hk=>(h2.block k (by omega)).trans (hb.block k hk)⟩,
  jar.keepS hU (fun k hk=>hne k (by have:=hk.1;omega)),⟨hq,by omega⟩,Or.inl hql,by omega,by omega⟩
theorem Boxed.new {w3 w5:World} {lo:Nat} {V:BookD} {x y:Value} (e:Nat) (hb:Below w3.heap.size w3 w5) (hU:jar w5 (From lo w5) V (.agg #[x,y])) (hl:w3.heap.size≤lo) :
  Boxed w3 (w5.alloc (.cells #[x,y] e)) w5.heap.size lo w5.heap.size V x y:=by
 have h:=jac w5 (.cells #[x,y] e)
 have hs:(w5.alloc (.cells #[x,y] e)).heap.size=w5.heap.size+1:=by simp
 exact ⟨Cs.new w5 [x,y] e,bx hb h,jar.keepS hU (fun k hk=>h.block k hk.2),⟨hb.size,by omega⟩,Or.inr (Nat.le_refl _),hl,by omega⟩
def runV (σ:StoreD) (l:List ActD):StoreD:=l.foldl (fun σ a=>(doV σ a).1) σ
def repV (σ:StoreD):List ActD→List ReplyD
 | []=>[]
 | a :: l=>(doV σ a).2 :: repV (doV σ a).1 l
theorem ymp (σ:StoreD) (l:List ActD) (a:ActD):runV σ (l ++ [a])=(doV (runV σ l) a).1:=by simp [runV]
theorem jtj {l:List ActD}:∀ {σ:StoreD},Inv σ→Inv (runV σ l):=by
 induction l with
 | nil=>intro σ h;exact h
 | cons a l ih=>intro σ h;exact ih (h.do_ a)
theorem ymf {l:List ActD}:∀ {σ:StoreD} {a:ActD},repV σ (l ++ [a])=repV σ l ++ [(doV (runV σ l) a).2]:=by
 induction l with
 | nil=>intro σ a;rfl
 | cons b l ih=>intro σ a;show _ :: repV _ (l ++ [a])=_;rw [ih];rfl
theorem jpt {l:List ActD}:∀ {σ:StoreD},(repV σ l).length=l.length:=by
 induction l with
 | nil=>intro σ;rfl
 | cons b l ih=>intro σ;simp [repV,ih]
theorem ymg {l:List ActD}:∀ {σ:StoreD} {k:Nat},repV σ (l.take k)=(repV σ l).take k:=by
 induction l with
 | nil=>intro σ k;simp [repV]
 | cons b l ih =>
  intro σ k
  cases k with
  | zero=>rfl
  | succ k=>simp [repV,ih]
theorem jtk {l:List ActD} {k:Nat} {a:ActD} (σ:StoreD) (h:l[k]? = some a):runV σ (l.take (k+1))=(doV (runV σ (l.take k)) a).1:=by rw [jai h,ymp]
theorem ypn {l:List ActD} {k:Nat} {a:ActD} (σ:StoreD) (h:l[k]? = some a):repV σ (l.take (k+1))=repV σ (l.take k) ++ [(doV (runV σ (l.take k)) a).2]:=by rw [jai h,ymf]
theorem yde {σ:StoreD} (x:SessD):(jer σ x).1.acts = σ.acts∧(jer σ x).1.sess = σ.sess:=by
 rcases jnh (σ:=σ) x with e | ⟨b,e⟩ <;> rw [e] <;> exact ⟨rfl,rfl⟩
theorem yq6 {σ:StoreD} (h:σ.acts<200) (a:ActD):(doV σ a).1.acts = σ.acts+1:=by
 unfold doV
 rw [if_neg (by omega)]
 split
 ·unfold jmt
  split
  ·rfl
  ·split <;> rfl
 ·split
  ·split
   ·unfold ja8
    simp only
    repeat' split
    ·rfl
    ·rfl
    ·rfl
    ·rfl
    ·exact (yde _).1
    ·rfl
   ·rfl
  ·rfl
theorem ypr {l:List ActD}:∀ {σ:StoreD},σ.acts+l.length≤200→(runV σ l).acts = σ.acts+l.length:=by
 induction l with
 | nil=>intro σ _;rfl
 | cons a l ih =>
  intro σ h
  simp only [List.length_cons] at h ⊢
  show (runV (doV σ a).1 l).acts=_
  have e:=yq6 (σ:=σ) (by omega) a
  rw [ih (by omega),e];omega
theorem yl5 {l:List ActD} (h:l.length≤50):(runV newV l).acts=l.length:=by
 have:=ypr (σ:=newV) (l:=l) (by show 0+l.length≤200;omega)
 rw [this];show 0+l.length=_;omega
def ji6 (σ τ:StoreD):Prop:=σ.later = τ.later ∧ σ.sess = τ.sess
theorem ji6.refl (σ:StoreD):ji6 σ σ:=⟨rfl,rfl⟩
theorem ji6.states {σ τ:StoreD} (h:ji6 σ τ):σ.states = τ.states:=by unfold StoreD.states;rw [h.1]
theorem ji6.sessN {σ τ:StoreD} (h:ji6 σ τ) (n:Nat):σ.sessN n = τ.sessN n:=by unfold StoreD.sessN;rw [h.2]
theorem ji6.session {σ τ:StoreD} (h:ji6 σ τ) (n:Int):jce σ n=jce τ n:=by unfold jce jcp;rw [h.sessN]
theorem ji6.tick (σ:StoreD):ji6 (jbj σ) σ:=⟨rfl,rfl⟩
theorem ypt {σ:StoreD} (n:Nat) (hl:n < σ.sess.length):σ.sess.set n (σ.sessN n) = σ.sess:=by
 apply List.ext_getElem?
 intro m
 by_cases e:n=m
 ·subst e
  rw [List.getElem?_set_self hl]
  unfold StoreD.sessN
  rw [List.getElem?_eq_getElem hl];rfl
 ·rw [List.getElem?_set_ne e]
def yhd:ActD:=⟨0,0,noS,noS,[]⟩
def jz2 (n:Int):ActD:=⟨7,n,noS,noS,[]⟩
def jsy:ActD:=⟨1,0,noS,noS,[]⟩
theorem yq8 {σ:StoreD} (h:σ.acts<200):doV σ yhd=(jbj σ,jb8 10):=by
 unfold doV yhd
 rw [if_neg (by omega)]
 simp
theorem yq7 {σ:StoreD} (h:200 ≤ σ.acts) (a:ActD):doV σ a=(σ,jb8 11):=by
 unfold doV;rw [if_pos h]
def jlf (σ:StoreD) (k:Nat):StoreD:=⟨σ.later,σ.sess,σ.acts+k⟩
theorem yit {σ:StoreD} {k:Nat} (h:σ.acts+k<200):doV (jlf σ k) yhd=(jlf σ (k+1),jb8 10):=by
 rw [yq8 (σ:=jlf σ k) h];rfl
theorem yel {σ:StoreD} (hi:Inv σ) (hact:σ.acts<200) (a:ActD) (hc:(doV σ a).2.code≠0) (h4:a.kind≠4) (h5:a.kind≠5) :
  (a.kind=6∧jcp σ a.n=true∧(doV σ a).1=(doV σ (jz2 a.n)).1∧(doV σ (jz2 a.n)).2=jb8 0∧(doV σ a).2.n=0) ∨
  (¬ (a.kind=6∧jcp σ a.n=true)∧(doV σ a).2=jb8 (doV σ a).2.code∧ji6 (doV σ a).1 σ):=by
 have hfull:¬ 200 ≤ σ.acts:=by omega
 by_cases hk1:a.kind=1
 ·refine .inr ⟨by omega,?_⟩
  have e:doV σ a=jmt (jbj σ) a.n:=by unfold doV;rw [if_neg hfull,if_pos hk1]
  rw [e] at hc ⊢
  unfold jmt at hc ⊢
  split at hc
  ·rename_i h;rw [if_pos h];exact ⟨rfl,ji6.tick σ⟩
  ·rename_i h
   rw [if_neg h]
   split at hc
   ·exact ⟨rfl,ji6.tick σ⟩
   ·exact absurd rfl hc
 ·by_cases hk:2≤a.kind∧a.kind≤7
  ·cases hop:jcp σ a.n
   ·refine .inr ⟨by simp,?_⟩
    have e:doV σ a=(jbj σ,jb8 3):=by unfold doV;rw [if_neg hfull,if_neg hk1,if_pos hk,hop];rfl
    rw [e];exact ⟨rfl,ji6.tick σ⟩
   ·obtain ⟨h0,hn4,ho⟩:=jd9.1 hop
    have hn:a.n.toNat < σ.sess.length:=by rw [hi.four];omega
    have e:doV σ a=ja8 (jbj σ) a.n.toNat a:=by unfold doV;rw [if_neg hfull,if_neg hk1,if_pos hk,hop];rfl
    have e7:doV σ (jz2 a.n)=(jaq (jbj σ) a.n.toNat jjn,jb8 0):=by
     unfold doV jz2
     rw [if_neg hfull]
     simp only [hop,if_true]
     unfold ja8
     simp
    have hsame:jaq (jbj σ) a.n.toNat ((jbj σ).sessN a.n.toNat)=jbj σ:=by
     show (⟨σ.later,σ.sess.set a.n.toNat (σ.sessN a.n.toNat),σ.acts+1⟩:StoreD)=_
     rw [ypt _ hn];rfl
    rw [e] at hc ⊢
    unfold ja8 at hc ⊢
    simp only at hc ⊢
    by_cases k2:a.kind=2
    ·rw [if_pos k2] at hc ⊢
     refine .inr ⟨by omega,?_⟩
     simp only at hc ⊢
     unfold putV at hc ⊢
     simp only at hc ⊢
     split at hc
     ·rename_i hp
      rw [if_pos hp]
      exact ⟨rfl,by rw [hsame];exact ji6.tick σ⟩
     ·split at hc <;> exact absurd rfl hc
    ·rw [if_neg k2] at hc ⊢
     by_cases k3:a.kind=3
     ·rw [if_pos k3] at hc ⊢
      refine .inr ⟨by omega,?_⟩
      simp only at hc ⊢
      unfold jky at hc ⊢
      split at hc
      ·rename_i hp
       rw [if_pos hp]
       exact ⟨rfl,by rw [hsame];exact ji6.tick σ⟩
      ·exact absurd rfl hc
     ·rw [if_neg k3,if_neg h4,if_neg h5] at hc ⊢
      by_cases k6:a.kind=6
      ·rw [if_pos k6] at hc ⊢
       refine .inl ⟨k6,trivial,?_,by rw [e7],?_⟩
       ·rw [e7]
        rcases jnh (σ:=jaq (jbj σ) a.n.toNat jjn) ((jbj σ).sessN a.n.toNat) with e | ⟨b,e⟩
        ·exact e
        ·exfalso
         unfold jer at e hc
         split at e
         ·simp at e;have:=congrArg StoreD.later e;simp at this
         ·rename_i hcf
          rw [hcf] at hc
          simp only at hc
          split at hc
          ·exact hc rfl
          ·rename_i g1
           rw [if_neg g1] at e
           split at hc
           ·rename_i g2;rw [if_pos g2] at e;have:=congrArg StoreD.later e;simp at this
           ·rename_i g2
            rw [if_neg g2] at e
            simp only at e hc
            split at hc
            ·rename_i g3;rw [if_pos g3] at e;have:=congrArg StoreD.later e;simp at this
            ·exact hc rfl
       ·unfold jer at hc ⊢
        split at hc
        ·rfl
        ·split at hc
         ·exact absurd rfl hc
         ·rename_i g1
          rw [if_neg g1]
          split at hc
          ·rename_i g2;rw [if_pos g2];rfl
          ·rename_i g2
           rw [if_neg g2]
           simp only at hc ⊢
           split at hc
           ·rename_i g3;rw [if_pos g3]
           ·exact absurd rfl hc
      ·rw [if_neg k6] at hc;exact absurd rfl hc
  ·refine .inr ⟨by omega,?_⟩
   have e:doV σ a=(jbj σ,jb8 10):=by unfold doV;rw [if_neg hfull,if_neg hk1,if_neg hk]
   rw [e];exact ⟨rfl,ji6.tick σ⟩
theorem yok (l:List RuleD) (i:List Int):∀ k,(idxL k l i).length=(jbl l i).length:=by
 induction l with
 | nil=>intro k;rfl
 | cons r l ih =>
  intro k
  have:=ih (k+1)
  unfold jbl at *
  simp only [idxL,List.length_append,List.filter_cons]
  cases jbw r.1 i <;> simp [this]
  omega
theorem ylg {t:TabD} {i:List Int} (hg:jbd t=true) (hl:i.length=t.ins.length) (hp:t.pol=1) (h:(jb5 t i).2.2=0):(idxL 0 t.rules i).length≤1:=by
 rw [yok]
 unfold jb5 at h
 rw [if_pos ⟨hg,hl⟩] at h
 unfold jgc at h
 split at h
 ·rename_i h1;omega
 ·split at h
  ·cases h
  ·rename_i hc
   cases ho:jbl t.rules i with
   | nil=>simp
   | cons a l =>
    rw [ho] at hc
    cases l with
    | nil=>simp
    | cons b l=>simp [jax,jbf,hp] at hc
def yi7:ByteArray:=⟨#[100,111,109,97,105,110,32,97,32,49,46,46,57]⟩
def jzc:ActD:=⟨2,0,noS,yi7,[]⟩
def jk2:ActD:=⟨6,0,noS,noS,[]⟩
theorem ygg:(doV newV jsy).2=numR 0:=by rfl
theorem yi8:(doV (doV newV jsy).1 jzc).2.code=0:=by decide +kernel
theorem jz5:(doV (doV (doV newV jsy).1 jzc).1 jk2).2.code=0∧(doV (doV (doV newV jsy).1 jzc).1 jk2).2.n=1∧(doV (doV (doV newV jsy).1 jzc).1 jk2).1.later.length=1:=by decide +kernel
def jjl (z:List (DomD × Int)) (s:ByteArray):List Int:=z.flatMap fun p=>if jap p.1.1 s then [p.2] else []
def isZ (z:List (DomD × Int)) (s:ByteArray):Bool:=z.any fun p=>jap p.1.1 s
theorem ynb {z:List (DomD × Int)} {k:Nat} {p:DomD × Int} (h:z[k]? = some p) (s:ByteArray):jjl (z.take (k+1)) s=jjl (z.take k) s ++ (if jap p.1.1 s then [p.2] else []):=by
 unfold jjl;rw [jai h,List.flatMap_append];simp
theorem yrl {z:List (DomD × Int)} {k:Nat} {p:DomD × Int} (h:z[k]? = some p) (s:ByteArray):isZ (z.take (k+1)) s=(isZ (z.take k) s || jap p.1.1 s):=by
 unfold isZ;rw [jai h,List.any_append];simp
theorem ync {z:List (DomD × Int)} {s:ByteArray} (h:∀ p,p∈z→p.1.1≠s):jjl z s = []:=by
 unfold jjl
 rw [List.flatMap_eq_nil_iff]
 intro p hp
 rw [jek.2 (h p hp)];rfl
theorem yp4 {z:List (DomD × Int)} (hn:(z.map (·.1.1)).Nodup) {p:DomD × Int} (hp:p∈z):jjl z p.1.1 = [p.2]:=by
 induction z with
 | nil=>simp at hp
 | cons a z ih =>
  rw [List.map_cons,List.nodup_cons] at hn
  show (if jap a.1.1 p.1.1 then [a.2] else []) ++ jjl z p.1.1=_
  rcases List.mem_cons.1 hp with rfl | hp'
  ·rw [jdk,ync (fun q hq e=>hn.1 (List.mem_map.2 ⟨q,hq,e⟩))];rfl
  ·rw [ih hn.2 hp',jek.2 (fun e=>hn.1 (List.mem_map.2 ⟨p,hp',e.symm⟩))];rfl
theorem yn5 {ds:List DomD}:∀ {l:List Int} {K:ByteArray→Option AnsD} {p:DomD × Int},(ds.map (·.1)).Nodup→p∈ds.zip l→domK ds l K p.1.1=some (p.1.1,true,p.2):=by
 induction ds with
 | nil=>intro l K p _ h;simp at h
 | cons e ds ih =>
  intro l K p hn h
  cases l with
  | nil=>simp at h
  | cons m l =>
   simp only [domK]
   rw [List.map_cons,List.nodup_cons] at hn
   rw [List.zip_cons_cons] at h
   rcases List.mem_cons.1 h with rfl | h
   ·rw [jt6 (fun x hx e=>hn.1 (List.mem_map.2 ⟨x,hx,e⟩)),jnt]
   ·exact ih hn.2 h
theorem ynm {ds:List DomD}:∀ {l:List Int},l.length=ds.length→(ds.zip l).map (·.1.1)=ds.map (·.1):=by
 induction ds with
 | nil=>intro l _;rfl
 | cons d ds ih =>
  intro l h
  cases l with
  | nil=>simp at h
  | cons n l=>simp at h ⊢;exact ih h
theorem jza {b:BookD} (hc:(ja6 b).2.2=0) {l:List Int} (hl:l.length=b.doms.length) (hin:jdf b.doms l=true) {i:Nat} {t:TabD} (ht:b.tabs[i]? = some t) (ho:t.ins.all (isZ (b.doms.zip l))=true) :
  ∃ a,(ansL b l)[i]? = some a∧(t.comp=true→a.2.1=true)∧(t.pol=1→(idxL 0 t.rules (t.ins.flatMap (jjl (b.doms.zip l)))).length≤1):=by
 have hm:=List.mem_of_getElem? ht
 obtain ⟨_,_,hgd,hgt,_⟩:=jfx hc
 have hg:=jg6 hgt hm
 have hnd:(b.doms.map (·.1)).Nodup:=by
  have h:=hgd
  unfold jda at h;rw [Bool.and_eq_true] at h;exact jfo h.2
 obtain ⟨f1,f2⟩:=jnd hc hl hin
 have key:∀ s,s∈t.ins→∃ n,jjl (b.doms.zip l) s = [n]∧askR b l s=some (s,true,n):=fun s hs=>by
  have h1:=List.all_eq_true.1 ho s hs
  obtain ⟨p,hp,e⟩:=List.any_eq_true.1 h1
  rw [jeo] at e
  subst e
  have hpd:p.1∈b.doms:=(List.of_mem_zip hp).1
  have hnt:p.1.1 ∉ ja3 b.tabs:=by
   intro hq
   obtain ⟨u,hu,e⟩:=List.mem_map.1 hq
   exact jof (jrm hgt hu) hpd e.symm
  refine ⟨p.2,yp4 (by rw [ynm hl];exact hnd) hp,?_⟩
  rw [f1 _ hnt,yn5 hnd hp]
 have hall:t.ins.all (jck (askR b l))=true:=List.all_eq_true.2 fun s hs=>by
  obtain ⟨n,_,e⟩:=key s hs
  unfold jck;rw [e];rfl
 have etold:∀ m:List ByteArray,(∀ s,s∈m→s∈t.ins)→m.flatMap (jjl (b.doms.zip l))=m.map (numA (askR b l)):=by
  intro m
  induction m with
  | nil=>intro _;rfl
  | cons s m ih =>
   intro hsub
   obtain ⟨n,e1,e2⟩:=key s (hsub s (by simp))
   rw [List.flatMap_cons,List.map_cons,ih (fun x hx=>hsub x (by simp [hx])),e1]
   unfold numA;rw [e2];rfl
 obtain ⟨g1,g2⟩:=(f2 t hm).2 hall
 refine ⟨jgl (askR b l) t,?_,fun hcm=>?_,fun hp=>?_⟩
 ·rw [yc4 hc hl hin,List.getElem?_map,ht];rfl
 ·unfold jgl;rw [if_pos hall];exact g2 hcm
 ·rw [etold _ (fun _ h=>h)]
  exact ylg hg (by simp) hp g1
open Go.RowKit Go.Shelf
def Enc.act:Enc ActD where
 size:=5
 rd w S a cs:=∃ vi,cs = [.int .i64 a.kind,.int .i64 a.n,.string a.name,.string a.text,vi]∧Sl Enc.int w S a.inp vi
 len:=fun ⟨_,h,_⟩=>by subst h;rfl
 keep:=fun ⟨vi,h,h1⟩ hk=>⟨vi,h,h1.keep hk⟩
 more:=fun ⟨vi,h,h1⟩ hS=>⟨vi,h,h1.more hS⟩
 one:=fun ⟨vi,h,h1⟩ u hu=>by
  obtain ⟨A,c,rfl,_⟩:=h1
  subst h
  simp at hu
  rcases hu with rfl | rfl | rfl | rfl | rfl <;> rfl
def Enc.rep:Enc ReplyD where
 size:=5
 rd w S r cs:=∃ va vt,cs = [.int .i64 r.code,.int .i64 r.n,.string r.text,va,vt]∧Sl Enc.ans w S r.answers va∧Sl Enc.int w S r.at_ vt
 len:=fun ⟨_,_,h,_⟩=>by subst h;rfl
 keep:=fun ⟨va,vt,h,h1,h2⟩ hk=>⟨va,vt,h,h1.keep hk,h2.keep hk⟩
 more:=fun ⟨va,vt,h,h1,h2⟩ hS=>⟨va,vt,h,h1.more hS,h2.more hS⟩
 one:=fun ⟨va,vt,h,h1,h2⟩ u hu=>by
  obtain ⟨A,c,rfl,_⟩:=h1
  obtain ⟨B,d,rfl,_⟩:=h2
  subst h
  simp at hu
  rcases hu with rfl | rfl | rfl | rfl | rfl <;> rfl
def jgy (w:World) (S:Nat→Prop) (a:ActD) (v:Value):Prop:=∃ vi,v = .agg #[.int .i64 a.kind,.int .i64 a.n,.string a.name,.string a.text,vi]∧Sl Enc.int w S a.inp vi
theorem Sl.act_at {w:World} {S:Nat→Prop} {l:List ActD} {A:Option Addr} {n c:Nat} (h:Sl Enc.act w S l (.slice A n c)) {k:Nat} (hk:k<l.length) :
  ∃ b o x vi,A=some ⟨b,o,none⟩∧S b∧Hid (l[k]? = some x)∧w.cell? ⟨b,o+k*5,none⟩=some (.int .i64 x.kind)∧w.cell? ⟨b,o+k*5+1,none⟩=some (.int .i64 x.n)∧w.cell? ⟨b,o+k*5+2,none⟩=some (.string x.name)∧w.cell? ⟨b,o+k*5+3,none⟩=some (.string x.text)∧w.cell? ⟨b,o+k*5+4,none⟩=some vi∧Sl Enc.int w S x.inp vi:=by
 obtain ⟨b,o,cs,rfl,hS,hr,hc⟩:=h.at hk
 obtain ⟨vi,rfl,h4⟩:=hr
 exact ⟨b,o,l[k],vi,rfl,hS,List.getElem?_eq_getElem hk,hc 0 _ rfl,hc 1 _ rfl,hc 2 _ rfl,hc 3 _ rfl,hc 4 _ rfl,h4⟩
theorem Sl.rep_at {w:World} {S:Nat→Prop} {l:List ReplyD} {A:Option Addr} {n c:Nat} (h:Sl Enc.rep w S l (.slice A n c)) {k:Nat} (hk:k<l.length) :
  ∃ b o x va vt,A=some ⟨b,o,none⟩∧S b∧Hid (l[k]? = some x)∧w.cell? ⟨b,o+k*5,none⟩=some (.int .i64 x.code)∧w.cell? ⟨b,o+k*5+1,none⟩=some (.int .i64 x.n)∧w.cell? ⟨b,o+k*5+2,none⟩=some (.string x.text)∧w.cell? ⟨b,o+k*5+3,none⟩=some va∧w.cell? ⟨b,o+k*5+4,none⟩=some vt∧Sl Enc.ans w S x.answers va∧Sl Enc.int w S x.at_ vt:=by
 obtain ⟨b,o,cs,rfl,hS,hr,hc⟩:=h.at hk
 obtain ⟨va,vt,rfl,h4,h5⟩:=hr
 exact ⟨b,o,l[k],va,vt,rfl,hS,List.getElem?_eq_getElem hk,hc 0 _ rfl,hc 1 _ rfl,hc 2 _ rfl,hc 3 _ rfl,hc 4 _ rfl,h4,h5⟩
def jkr:List Value:=[.bool false,.bool false,.int .i64 0,.slice none 0 0,.slice none 0 0,.slice none 0 0,.slice none 0 0]
abbrev new0:List Value:=[.slice none 0 0,.bool false,.bool false,.int .i64 0,.slice none 0 0,.slice none 0 0,.slice none 0 0,.slice none 0 0,.bool false,.bool false,.int .i64 0,.slice none 0 0,.slice none 0 0,.slice none 0 0,.slice none 0 0,.bool false,.bool false,.int .i64 0,.slice none 0 0,.slice none 0 0,.slice none 0 0,.slice none 0 0,.bool false,.bool false,.int .i64 0,.slice none 0 0,.slice none 0 0,.slice none 0 0,.slice none 0 0,.int .i64 0]
def c1 (g:Nat):Nat→Nat:=fun b=>if b=g then 1 else 0
theorem SessC.zero (w:World) (c:Nat→Nat) (n:Nat):SessC w c n jjn (.slice none 0 0) (.slice none 0 0) (.slice none 0 0) (.slice none 0 0) :=
 ⟨Sl.nil,Sl.nil,OwnT.nil,(fun b hb=>by cases hb),OwnT.nil,(fun b hb=>by cases hb)⟩
theorem StoreC.new (w:World) (e:Nat):StoreC (w.alloc (.cells new0.toArray e)) (c1 w.heap.size) w.heap.size newV new0 (.slice none 0 0) where
 cs:=Cs.new w new0 e
 len:=rfl
 col:=by simp [c1]
 lt:=fun b hb=>by
  unfold c1 at hb
  split at hb
  ·rename_i h;subst h;simp
  ·exact absurd rfl hb
 row:=OwnS.nil
 rowC:=fun b hb=>by cases hb
 v0:=rfl
 sess:=fun n x hx=>by
  have hx':x=jjn:=by have:=List.mem_of_getElem? hx;simp [newV] at this;exact this
  have hn:n<4:=by have:=(List.getElem?_eq_some_iff.1 hx).1;exact this
  subst hx'
  refine ⟨_,_,_,_,SessC.zero _ _ _,fun j v hj=>?_⟩
  have hj7:j<7:=by have:=(List.getElem?_eq_some_iff.1 hj).1;exact this
  have:n=0∨n=1∨n=2∨n=3:=by omega
  have:j=0∨j=1∨j=2∨j=3∨j=4∨j=5∨j=6:=by omega
  rcases ‹n=0∨n=1∨n=2∨n=3› with rfl | rfl | rfl | rfl <;> rcases ‹j=0∨_› with rfl | rfl | rfl | rfl | rfl | rfl | rfl <;> exact hj
 acts:=rfl
 inv:=Inv.new
 one:=fun b hb=>by
  unfold c1 at hb
  split at hb
  ·assumption
  ·cases hb
theorem jn3 (w:World):Calls Tryz.prog 38 #[] w fun e w'=>e = .returned (.pointer (some ⟨w.heap.size,0,none⟩))∧w'=w.alloc (.cells new0.toArray 91):=by
 go_enter Tryz.func38,Tryz.ntmps38
 go_wp2
 go_ret
 exact ⟨rfl,rfl⟩
def put7 (w:World) (b:Nat) (x0 x1 x2 x3 x4 x5 x6:Value):World :=
 ((((((w.setCell ⟨b,0,none⟩ x0).setCell ⟨b,1,none⟩ x1).setCell ⟨b,2,none⟩ x2).setCell ⟨b,3,none⟩ x3).setCell ⟨b,4,none⟩ x4).setCell ⟨b,5,none⟩ x5).setCell ⟨b,6,none⟩ x6
theorem jzb {w:World} {b:Nat} {a0 a1 a2 a3 a4 a5 a6:Value} (h:Cs w b [a0,a1,a2,a3,a4,a5,a6]) (x0 x1 x2 x3 x4 x5 x6:Value):Cs (put7 w b x0 x1 x2 x3 x4 x5 x6) b [x0,x1,x2,x3,x4,x5,x6] :=
 ((((((h.set 0 (by simp) x0).set 1 (by simp) x1).set 2 (by simp) x2).set 3 (by simp) x3).set 4 (by simp) x4).set 5 (by simp) x5).set 6 (by simp) x6
theorem yb8 (w:World) (b:Nat) (x0 x1 x2 x3 x4 x5 x6:Value):(put7 w b x0 x1 x2 x3 x4 x5 x6).heap.size=w.heap.size:=by simp [put7,World.setCell]
theorem joc (w:World) (b:Nat) (x0 x1 x2 x3 x4 x5 x6:Value):Below b w (put7 w b x0 x1 x2 x3 x4 x5 x6) :=
 ((((((jal ..).trans (jal ..)).trans (jal ..)).trans (jal ..)).trans (jal ..)).trans (jal ..)).trans (jal ..)
theorem jrx (w:World) (b:Nat) (x0 x1 x2 x3 x4 x5 x6:Value) (k:Nat) (h:k≠b):(put7 w b x0 x1 x2 x3 x4 x5 x6).heap[k]? = w.heap[k]?:=by
 unfold put7
 rw [RowKit.Below.heap_setCell _ _ _ _ h,RowKit.Below.heap_setCell _ _ _ _ h,RowKit.Below.heap_setCell _ _ _ _ h,RowKit.Below.heap_setCell _ _ _ _ h,RowKit.Below.heap_setCell _ _ _ _ h,RowKit.Below.heap_setCell _ _ _ _ h,RowKit.Below.heap_setCell _ _ _ _ h]
theorem jtg {fn:Func} {p:Tmp} {tmps:Array Value} {W:World} {b:Nat} {x0 x1 x2 x3 x4 x5 x6:Value} (h:fn.results = #[.cell p 41]) (hp:tmps.getD p undef = .pointer (some ⟨b,0,none⟩)) (ht:Cs W b [x0,x1,x2,x3,x4,x5,x6]) :
  (results fn tmps).run Tryz.prog W = .ok (.agg #[x0,x1,x2,x3,x4,x5,x6]) W:=by
 have q0:=ht.at 0 rfl
 have q1:=ht.at 1 rfl
 have q2:=ht.at 2 rfl
 have q3:=ht.at 3 rfl
 have q4:=ht.at 4 rfl
 have q5:=ht.at 5 rfl
 have q6:=ht.at 6 rfl
 have hp':tmps[p]?.getD undef = .pointer (some ⟨b,0,none⟩):=by simpa using hp
 simp [results,h,hp',go_sem,q0,q1,q2,q3,q4,q5,q6]
theorem jr5 (x:SessD) (v:Value) (w:World) (S:Nat→Prop) (h:jhb w S x v) (hS:∀ k,S k→k<w.heap.size) (hm:okB x.mine=true) (hl:x.mine.doms.length≤100000∧x.mine.tabs.length≤100000∧x.gone.length≤1000000∧x.read.length≤1000000) :
  Calls Tryz.prog 50 #[v] w fun e w'=>∃ u,e = .returned u∧jhb w' (jg7 w.heap.size w') x u∧Below w.heap.size w w':=by
 obtain ⟨l1,l2,l3,l4⟩:=hl
 obtain ⟨opn,strict,frm,mine,gone,read⟩:=x
 simp only at hm l1 l2 l3 l4
 have HCB:=Lib.hid (jy6 hm (by omega) (by omega))
 have HS:=Lib.hid hS
 obtain ⟨vd,vt,vg,vr,rfl,y1,y2,y3,y4⟩:=h
 simp only at y1 y2 y3 y4
 have HD:=Lib.hid y1
 have HT:=Lib.hid y2
 have HG:=Lib.hid y3
 have HR:=Lib.hid y4
 obtain ⟨Ad,cd,rfl,-,-⟩:=y1.form
 obtain ⟨At,ct,rfl,-,-⟩:=y2.form
 obtain ⟨Ag,cg,rfl,-,-⟩:=y3.form
 obtain ⟨Ah,ch,rfl,-,-⟩:=y4.form
 clear y1 y2 y3 y4 hS hm
 have hb0:=jac w (.cells #[.bool opn,.bool strict,.int .i64 frm,.slice Ad mine.doms.length cd,.slice At mine.tabs.length ct,.slice Ag gone.length cg,.slice Ah read.length ch] 41)
 have S0:=Lib.hid (Cs.new w [.bool opn,.bool strict,.int .i64 frm,.slice Ad mine.doms.length cd,.slice At mine.tabs.length ct,.slice Ag gone.length cg,.slice Ah read.length ch] 41)
 have hz0:(w.alloc (.cells #[.bool opn,.bool strict,.int .i64 frm,.slice Ad mine.doms.length cd,.slice At mine.tabs.length ct,.slice Ag gone.length cg,.slice Ah read.length ch] 41)).heap.size=w.heap.size+1:=by simp
 change Hid (Cs (w.alloc (.cells #[.bool opn,.bool strict,.int .i64 frm,.slice Ad mine.doms.length cd,.slice At mine.tabs.length ct,.slice Ag gone.length cg,.slice Ah read.length ch] 41)) _ _) at S0
 generalize hw0:w.alloc (.cells #[.bool opn,.bool strict,.int .i64 frm,.slice Ad mine.doms.length cd,.slice At mine.tabs.length ct,.slice Ag gone.length cg,.slice Ah read.length ch] 41)=w0 at *
 have hb1:=jac w0 (.cells #[.bool false,.bool false,.int .i64 0,.slice none 0 0,.slice none 0 0,.slice none 0 0,.slice none 0 0] 41)
 have R1:=Lib.hid (Cs.new w0 jkr 41)
 have hz1:(w0.alloc (.cells #[.bool false,.bool false,.int .i64 0,.slice none 0 0,.slice none 0 0,.slice none 0 0,.slice none 0 0] 41)).heap.size=w.heap.size+2:=by simp;omega
 change Hid (Cs (w0.alloc (.cells #[.bool false,.bool false,.int .i64 0,.slice none 0 0,.slice none 0 0,.slice none 0 0,.slice none 0 0] 41)) _ _) at R1
 rw [hz0] at R1
 have S1:=Lib.hid (S0.out.next hb1)
 have hb01:=bx hb0 hb1
 generalize hw1:w0.alloc (.cells #[.bool false,.bool false,.int .i64 0,.slice none 0 0,.slice none 0 0,.slice none 0 0,.slice none 0 0] 41)=w1 at *
 have k3:=S1.out.at 3 rfl
 have k4:=S1.out.at 4 rfl
 have HB1:Hid (jar w1 S mine (.agg #[.slice Ad mine.doms.length cd,.slice At mine.tabs.length ct])):=⟨_,_,rfl,HD.out.keep fun p hp=>hb01.cell (HS.out _ hp),HT.out.keep fun p hp=>hb01.cell (HS.out _ hp)⟩
 go_enter Tryz.func50,Tryz.ntmps50
 go_wp2_with fail
 clear hw0 hw1 k3 k4 hb0 hb1 S0
 refine (jkt mine _ _ S HB1.out (fun k hk=>by have:=HS.out k hk;omega) HCB.out).mono ?_
 rintro e w2 ⟨u,rfl,hu,hb2⟩
 obtain ⟨ud,ut,rfl,s1,s2⟩:=hu
 have HUD:=Lib.hid s1
 have HUT:=Lib.hid s2
 obtain ⟨Aq,cq,rfl,-,-⟩:=s1.form
 obtain ⟨Bq,dq,rfl,-,-⟩:=s2.form
 clear s1 s2
 have hs2:=hb2.size
 have hb02:=bx hb01 hb2
 have S2:=Lib.hid (S1.out.next hb2)
 have R2:=Lib.hid (R1.out.next hb2)
 have m3:=S2.out.at 3 rfl
 have m4:=S2.out.at 4 rfl
 have z3:=S2.out.2.2 3 (by simp)
 have z4:=S2.out.2.2 4 (by simp)
 have S3:=Lib.hid ((S2.out.set 3 (by simp) (.slice Aq mine.doms.length cq)).set 4 (by simp) (.slice Bq mine.tabs.length dq))
 have hsz3:((w2.setCell ⟨w.heap.size,3,none⟩ (.slice Aq mine.doms.length cq)).setCell ⟨w.heap.size,4,none⟩ (.slice Bq mine.tabs.length dq)).heap.size=w2.heap.size:=by simp [World.setCell]
 have hbk3:Hid (∀ b,b≠w.heap.size→((w2.setCell ⟨w.heap.size,3,none⟩ (.slice Aq mine.doms.length cq)).setCell ⟨w.heap.size,4,none⟩ (.slice Bq mine.tabs.length dq)).heap[b]? = w2.heap[b]?):=fun b hb=>by rw [RowKit.Below.heap_setCell _ _ _ _ hb,RowKit.Below.heap_setCell _ _ _ _ hb]
 have hb03:Below w.heap.size w ((w2.setCell ⟨w.heap.size,3,none⟩ (.slice Aq mine.doms.length cq)).setCell ⟨w.heap.size,4,none⟩ (.slice Bq mine.tabs.length dq)):=(hb02.setCell (Nat.le_refl _) _).setCell (Nat.le_refl _) _
 have m5:=S3.out.at 5 rfl
 go_wp2_with fail
 generalize hw3:(w2.setCell ⟨w.heap.size,3,none⟩ (.slice Aq mine.doms.length cq)).setCell ⟨w.heap.size,4,none⟩ (.slice Bq mine.tabs.length dq)=w3 at *
 clear hw3 m3 m4 z3 z4 m5
 have HG3:Hid (Sl Enc.str w3 S gone (.slice Ag gone.length cg)):=HG.out.keep fun p hp=>hb03.cell (HS.out _ hp)
 refine (jrg gone _ _ S HG3.out (by omega)).mono ?_
 rintro e w4 ⟨v4,rfl,ho4,hb4⟩
 have HO4:=Lib.hid ho4
 obtain ⟨A4,c4,rfl,-,-,-⟩:=jah ho4
 clear ho4
 have hs4:=hb4.size
 have hb04:=bx hb03 hb4
 have S4:=Lib.hid (S3.out.next hb4)
 have m5:=S4.out.at 5 rfl
 have z5:=S4.out.2.2 5 (by simp)
 have S5:=Lib.hid (S4.out.set 5 (by simp) (.slice A4 gone.length c4))
 have hsz5:(w4.setCell ⟨w.heap.size,5,none⟩ (.slice A4 gone.length c4)).heap.size=w4.heap.size:=by simp [World.setCell]
 have hbk5:Hid (∀ b,b≠w.heap.size→(w4.setCell ⟨w.heap.size,5,none⟩ (.slice A4 gone.length c4)).heap[b]? = w4.heap[b]?):=fun b hb=>RowKit.Below.heap_setCell _ _ _ _ hb
 have hb05:Below w.heap.size w (w4.setCell ⟨w.heap.size,5,none⟩ (.slice A4 gone.length c4)):=hb04.setCell (Nat.le_refl _) _
 have m6:=S5.out.at 6 rfl
 go_wp2_with fail
 generalize hw5:w4.setCell ⟨w.heap.size,5,none⟩ (.slice A4 gone.length c4)=w5 at *
 clear hw5 m5 z5 m6
 have HR5:Hid (Sl Enc.str w5 S read (.slice Ah read.length ch)):=HR.out.keep fun p hp=>hb05.cell (HS.out _ hp)
 refine (jrg read _ _ S HR5.out (by omega)).mono ?_
 rintro e w6 ⟨v6,rfl,ho6,hb6⟩
 have HO6:=Lib.hid ho6
 obtain ⟨A6,c6,rfl,-,-,-⟩:=jah ho6
 clear ho6
 have hs6:=hb6.size
 have hb06:=bx hb05 hb6
 have S6:=Lib.hid (S5.out.next hb6)
 have m6:=S6.out.at 6 rfl
 have z6:=S6.out.2.2 6 (by simp)
 have S7:=Lib.hid (S6.out.set 6 (by simp) (.slice A6 read.length c6))
 have hsz7:(w6.setCell ⟨w.heap.size,6,none⟩ (.slice A6 read.length c6)).heap.size=w6.heap.size:=by simp [World.setCell]
 have hbk7:Hid (∀ b,b≠w.heap.size→(w6.setCell ⟨w.heap.size,6,none⟩ (.slice A6 read.length c6)).heap[b]? = w6.heap[b]?):=fun b hb=>RowKit.Below.heap_setCell _ _ _ _ hb
 have hb07:Below w.heap.size w (w6.setCell ⟨w.heap.size,6,none⟩ (.slice A6 read.length c6)):=hb06.setCell (Nat.le_refl _) _
 have hne:w.heap.size+1≠w.heap.size:=by omega
 have hblk:Hid (∀ b,b≠w.heap.size→b<w2.heap.size→(w6.setCell ⟨w.heap.size,6,none⟩ (.slice A6 read.length c6)).heap[b]? = w2.heap[b]?):=fun b hb hlt=>by
  rw [hbk7.out b hb,hb6.block b (by omega),hbk5.out b hb,hb4.block b (by omega),hbk3.out b hb]
 have R7:=Lib.hid (R2.out.keep (hblk.out _ hne (by omega)) (by omega))
 have q0:=S7.out.at 0 rfl
 have q1:=S7.out.at 1 rfl
 have q2:=S7.out.at 2 rfl
 have q3:=S7.out.at 3 rfl
 have q4:=S7.out.at 4 rfl
 have q5:=S7.out.at 5 rfl
 have q6:=S7.out.at 6 rfl
 have r0:=R7.out.at 0 rfl
 have r1:=R7.out.at 1 rfl
 have r2:=R7.out.at 2 rfl
 have r3:=R7.out.at 3 rfl
 have r4:=R7.out.at 4 rfl
 have r5:=R7.out.at 5 rfl
 have r6:=R7.out.at 6 rfl
 have f0:=R7.out.2.2 0 (by simp [jkr])
 have f1:=R7.out.2.2 1 (by simp [jkr])
 have f2:=R7.out.2.2 2 (by simp [jkr])
 have f3:=R7.out.2.2 3 (by simp [jkr])
 have f4:=R7.out.2.2 4 (by simp [jkr])
 have f5:=R7.out.2.2 5 (by simp [jkr])
 have f6:=R7.out.2.2 6 (by simp [jkr])
 go_wp2
 (try simp only [Exit.inBlock,Exit.then])
 generalize hw7:w6.setCell ⟨w.heap.size,6,none⟩ (.slice A6 read.length c6)=w7 at *
 refine bodyPost_ret (jtg (b:=w.heap.size+1) rfl rfl (jzb R7.out _ _ _ _ _ _ _)) rfl ⟨_,rfl,?_,?_⟩
 ·have hsp:=yb8 w7 (w.heap.size+1) (.bool opn) (.bool strict) (.int .i64 frm) (.slice Aq mine.doms.length cq) (.slice Bq mine.tabs.length dq) (.slice A4 gone.length c4) (.slice A6 read.length c6)
  have hpb:=jrx w7 (w.heap.size+1) (.bool opn) (.bool strict) (.int .i64 frm) (.slice Aq mine.doms.length cq) (.slice Bq mine.tabs.length dq) (.slice A4 gone.length c4) (.slice A6 read.length c6)
  have hK2:∀ b,w1.heap.size≤b→b<w2.heap.size→(put7 w7 (w.heap.size+1) (.bool opn) (.bool strict) (.int .i64 frm) (.slice Aq mine.doms.length cq) (.slice Bq mine.tabs.length dq) (.slice A4 gone.length c4) (.slice A6 read.length c6)).heap[b]? = w2.heap[b]?:=fun b h1 h2=>(hpb b (by omega)).trans (hblk.out b (by omega) h2)
  refine ⟨_,_,_,_,rfl,?_,?_,?_,?_⟩
  ·exact (HUD.out.keep fun p hp=>World.cell?_of_block (hK2 _ hp.1 hp.2.1)).more fun k hk=>⟨by have:=hk.1;omega,Nat.lt_of_lt_of_eq (by have:=hk.2.1;omega) hsp.symm,hk.2.2.of (hK2 k hk.1 hk.2.1)⟩
  ·exact (HUT.out.keep fun p hp=>World.cell?_of_block (hK2 _ hp.1 hp.2.1)).more fun k hk=>⟨by have:=hk.1;omega,Nat.lt_of_lt_of_eq (by have:=hk.2.1;omega) hsp.symm,hk.2.2.of (hK2 k hk.1 hk.2.1)⟩
  ·have hlt:=HO4.out.lt
   have hk:=HO4.out.keep (fun b hb=>by
    have:=hlt b hb
    exact (hpb b (by omega)).trans ((hbk7.out b (by omega)).trans ((hb6.block b (by omega)).trans (hbk5.out b (by omega)))))
   exact hk.sl (S:=jg7 w.heap.size _) fun b hb=>by have:=jk7 hk b hb;exact ⟨by have:=this.1;omega,this.2⟩
  ·have hlt:=HO6.out.lt
   have hk:=HO6.out.keep (fun b hb=>by
    have:=hlt b hb
    exact (hpb b (by omega)).trans (hbk7.out b (by omega)))
   exact hk.sl (S:=jg7 w.heap.size _) fun b hb=>by have:=jk7 hk b hb;exact ⟨by have:=this.1;omega,this.2⟩
 ·have h7:=joc w7 (w.heap.size+1) (.bool opn) (.bool strict) (.int .i64 frm) (.slice Aq mine.doms.length cq) (.slice Bq mine.tabs.length dq) (.slice A4 gone.length c4) (.slice A6 read.length c6)
  exact jig hb07 h7 (by omega)
theorem ymz {σ:StoreD} {k:Nat} (h:k ≤ σ.last):σ.states[k]? = some (σ.ver k):=by
 unfold StoreD.ver
 have:k < σ.states.length:=by unfold StoreD.states;unfold StoreD.last at h;simp;omega
 rw [List.getElem?_eq_getElem this];rfl
theorem jmc (σ:StoreD):σ.states.length = σ.last+1:=by simp [StoreD.states,StoreD.last]
theorem jzp (σ:StoreD) (c:Nat→Nat) (g:Nat) (vs:List Value) (vl:Value) (w:World) (h:StoreC w c g σ vs vl) :
  Calls Tryz.prog 16 #[.pointer (some ⟨g,0,none⟩)] w fun e w'=>∃ v,e = .returned v∧OwnU Enc.book w' w.heap.size w.heap.size 38 v σ.states∧Below w.heap.size w w':=by
 have HH:=Lib.hid h
 have HCL:=Lib.hid h.lt
 have HIV:=Lib.hid h.inv
 have hl39:σ.last≤39:=h.inv.some_
 have HSL:=Lib.hid (jmc σ)
 have HSA:Hid (∀ k,k ≤ σ.last → σ.states[k]? = some (σ.ver k)):=fun k hk=>ymz hk
 have hwl:IntKind.i64.wrap ((σ.last:Int)+1)=(σ.last:Int)+1:=by rw [IntKind.wrap_i64];omega
 clear h
 go_enter Tryz.func16,Tryz.ntmps16
 go_wp2_with fail
 refine (jgr σ c g vs vl _ HH.out).mono ?_
 rintro e w1 ⟨rfl,hw1⟩
 replace hw1:=hw1.symm
 subst hw1
 go_wp2
 go_loopw [3,10] (fun u i wr=>∃ k:Nat,k ≤ σ.last+1∧i = .int .i64 k∧Hid (OwnU Enc.book wr w.heap.size w.heap.size 38 u (σ.states.take k))∧Below w.heap.size w wr) (fun _ i _=>σ.last+1-(intOf i).toNat)
 case atStart=>exact ⟨0,Nat.zero_le _,rfl,OwnS.nil,Below.refl _ _⟩
 case round =>
  obtain ⟨k,hk,rfl,HO,hb⟩:=hrel
  by_cases hlt:k < σ.last+1
  ·have hlt':(k:Int)<(σ.last:Int)+1:=by omega
   have HX:=Lib.hid (HSA.out k (by omega))
   have hsz:=hb.size
   go_wp2_with fail
   refine (jgs σ c g vs vl _ (HH.out.next hb) k (by omega)).mono ?_
   rintro e w2 ⟨ud,ut,rfl,hu,hb2⟩
   have HU:=Lib.hid hu
   obtain ⟨qd,qt,eq,s1,s2⟩:=hu
   injection eq with eq
   injection eq with eq
   injection eq with eq1 eq2
   injection eq2 with eq2 _
   subst eq1 eq2
   obtain ⟨A2,c2,rfl,-,-⟩:=s1.form
   obtain ⟨B2,d2,rfl,-,-⟩:=s2.form
   clear s1 s2
   have hsz2:=hb2.size
   have hvl:=jn7 HIV.out k
   go_wp2_with fail
   refine (jkt (σ.ver k) _ _ (Im c) HU.out (fun q hq=>by have:=HCL.out q (by rw [show c q=11 from hq];decide);omega) (jy6 (jq4 HIV.out k) (by omega) (by omega))).mono ?_
   rintro e w3 ⟨u3,rfl,hu3,hb3⟩
   obtain ⟨td,tt,rfl,s1,s2⟩:=hu3
   have hb23:=bx hb2 hb3
   have hsz3:=hb23.size
   obtain ⟨A3,c3,e3,-,-⟩:=s1.form
   obtain ⟨B3,d3,e4,-,-⟩:=s2.form
   subst e3 e4
   generalize hV:σ.ver k=V at *
   have hb4:=jac w3 (.cells #[.slice A3 V.doms.length c3,.slice B3 V.tabs.length d3] 38)
   have HOa:=Lib.hid (OwnU.next (OwnU.next HO.out hb23) hb4)
   have hb34:=bx hb hb23
   have hb44:=bx hb34 hb4
   have HY:Hid (Enc.book.rd (w3.alloc (.cells #[.slice A3 V.doms.length c3,.slice B3 V.tabs.length d3] 38)) (OffU w.heap.size (w3.alloc (.cells #[.slice A3 V.doms.length c3,.slice B3 V.tabs.length d3] 38)) u3) V [.slice A3 V.doms.length c3,.slice B3 V.tabs.length d3]):=by
    have off:∀ q,jg7 w2.heap.size w3 q→OffU w.heap.size (w3.alloc (.cells #[.slice A3 V.doms.length c3,.slice B3 V.tabs.length d3] 38)) u3 q:=jg7.off (by omega) (fun k hk=>by have:=(OwnS.lt HO.out k hk).2;omega) hb4
    exact ⟨_,_,rfl,(s1.keep fun p hp=>hb4.cell hp.2.1).more off,(s2.keep fun p hp=>hb4.cell hp.2.1).more off⟩
   have hN:Hid ((σ.states.take k).length=k):=by show _=_;rw [List.length_take,HSL.out];omega
   have hbs:w.heap.size≤(w3.alloc (.cells #[.slice A3 V.doms.length c3,.slice B3 V.tabs.length d3] 38)).heap.size:=hb44.size
   have HT:Hid (σ.states.take (k+1) = σ.states.take k ++ [V]):=jai HX.out
   have hlo:=OwnS.lt HO.out
   clear s1 s2 HU hvl
   go_wp2_with (at_builtin;refine jvq (E:=Enc.book) _ rfl _ _ 32 rfl w.heap.size w.heap.size 38 48 (.agg #[.slice none 0 0,.slice none 0 0]) ye5 yjh rfl (by decide) _ _ rfl HOa.out ⟨w3.heap.size,0,none⟩ V [.slice A3 V.doms.length c3,.slice B3 V.tabs.length d3] rfl HY.out (jwn _ _ _ _) (by rw [hN.out];omega) (by rw [hN.out];unfold maxLen;omega) hbs ?_;intro v5 w5 ho5 hg5 hm5)
   refine ⟨⟨k+1,by omega,by go_num,?_,?_⟩,by simp [intOf];omega⟩
   ·rw [HT.out];exact ho5
   ·exact hb44.grown hg5 hbs (fun q hq=>(hlo q hq).1)
  ·have hnl:¬ (k:Int)<(σ.last:Int)+1:=by omega
   have ek:σ.states.take k = σ.states:=List.take_of_length_le (by rw [HSL.out];omega)
   rw [ek] at HO
   go_wp2
   go_ret
   exact ⟨_,rfl,HO.out,hb⟩
theorem jhq (σ:StoreD) (c:Nat→Nat) (g:Nat) (vs:List Value) (vl:Value) (w:World) (h:StoreC w c g σ vs vl) :
  Calls Tryz.prog 16 #[.pointer (some ⟨g,0,none⟩)] w fun e w'=>∃ v,e = .returned v∧Sl Enc.book w' (From w.heap.size w') σ.states v∧Below w.heap.size w w' :=
 (jzp σ c g vs vl w h).mono fun _ _ ⟨v,h1,h2,h3⟩=>⟨v,h1,(OwnU.sl h2 (Nat.le_refl _)).more fun _ hk=>⟨hk.1,hk.2.1⟩,h3⟩
theorem jv5 (σ:StoreD) (c:Nat→Nat) (g:Nat) (vs:List Value) (vl:Value) (w:World) (h:StoreC w c g σ vs vl) (n:Int) :
  Calls Tryz.prog 18 #[.pointer (some ⟨g,0,none⟩),.int .i64 n] w fun e w'=>∃ u,e = .returned u∧jhb w' (jg7 w.heap.size w') (jce σ n) u∧Below w.heap.size w w':=by
 have HH:=Lib.hid h
 have HCL:=Lib.hid h.lt
 have HIV:=Lib.hid h.inv
 have hac:=h.inv.acts
 have hb1:=jac w (.cells #[.bool false,.bool false,.int .i64 0,.slice none 0 0,.slice none 0 0,.slice none 0 0,.slice none 0 0] 41)
 have R1:=Lib.hid (Cs.new w jkr 41)
 have hz1:(w.alloc (.cells #[.bool false,.bool false,.int .i64 0,.slice none 0 0,.slice none 0 0,.slice none 0 0,.slice none 0 0] 41)).heap.size=w.heap.size+1:=by simp
 change Hid (Cs (w.alloc (.cells #[.bool false,.bool false,.int .i64 0,.slice none 0 0,.slice none 0 0,.slice none 0 0,.slice none 0 0] 41)) _ _) at R1
 generalize hw1:w.alloc (.cells #[.bool false,.bool false,.int .i64 0,.slice none 0 0,.slice none 0 0,.slice none 0 0,.slice none 0 0] 41)=w1 at *
 have H1:=Lib.hid (HH.out.next hb1)
 go_enter Tryz.func18,Tryz.ntmps18
 go_wp2_with fail
 clear hw1
 refine (jgh σ c g vs vl _ H1.out n).mono ?_
 rintro e w2 ⟨rfl,hw2⟩
 replace hw2:=hw2.symm
 subst hw2
 have r0:=R1.out.at 0 rfl
 have r1:=R1.out.at 1 rfl
 have r2:=R1.out.at 2 rfl
 have r3:=R1.out.at 3 rfl
 have r4:=R1.out.at 4 rfl
 have r5:=R1.out.at 5 rfl
 have r6:=R1.out.at 6 rfl
 have f0:=R1.out.2.2 0 (by simp [jkr])
 have f1:=R1.out.2.2 1 (by simp [jkr])
 have f2:=R1.out.2.2 2 (by simp [jkr])
 have f3:=R1.out.2.2 3 (by simp [jkr])
 have f4:=R1.out.2.2 4 (by simp [jkr])
 have f5:=R1.out.2.2 5 (by simp [jkr])
 have f6:=R1.out.2.2 6 (by simp [jkr])
 cases hop:jcp σ n
 ·have HE:Hid (jce σ n=jjn):=by show _=_;unfold jce;rw [hop];rfl
  clear hop
  go_wp2
  (try simp only [Exit.inBlock,Exit.then])
  refine bodyPost_ret (jtg (b:=w.heap.size) rfl rfl (jzb R1.out _ _ _ _ _ _ _)) rfl ⟨_,rfl,?_,?_⟩
  ·rw [HE.out];exact ⟨_,_,_,_,rfl,Sl.nil,Sl.nil,Sl.nil,Sl.nil⟩
  ·exact jig hb1 (joc _ _ _ _ _ _ _ _ _) (Nat.le_refl _)
 ·obtain ⟨h0,h4,-⟩:=jd9.1 hop
  have HE:Hid (jce σ n = σ.sessN n.toNat):=by show _=_;unfold jce;rw [hop];rfl
  clear hop
  obtain ⟨k,rfl⟩:∃ k:Nat,n=k:=⟨n.toNat,by omega⟩
  have hk:k<4:=by omega
  have ekk:((k:Int)).toNat=k:=by simp
  rw [ekk] at HE
  have hSO:=Lib.hid (HIV.out.at k)
  obtain ⟨vd,vt,vg,vr,hC,-,-,hcell⟩:=H1.out.sessAt (je5 HIV.out hk)
  generalize hX:σ.sessN k=X at *
  have HX1:=Lib.hid hC.at
  obtain ⟨Ad,cd,rfl,-,-⟩:=hC.doms.form
  obtain ⟨At,ct,rfl,-,-⟩:=hC.tabs.form
  obtain ⟨Ag,cg,rfl,-,-,-⟩:=jah hC.gone
  obtain ⟨Ah,ch,rfl,-,-,-⟩:=jah hC.read
  have c0:w1.cell? ⟨g,1+k*7,none⟩=some (.bool X.opn):=(hcell 0 _ rfl).1
  have c1:=(hcell 1 _ rfl).1
  have c2:=(hcell 2 _ rfl).1
  have c3:=(hcell 3 _ rfl).1
  have c4:=(hcell 4 _ rfl).1
  have c5:=(hcell 5 _ rfl).1
  have c6:=(hcell 6 _ rfl).1
  have l1:=hSO.out.ds
  have l2:=hSO.out.ts
  have l3:=hSO.out.gs
  have l4:=hSO.out.rs
  clear hcell hC hX r0 r1 r2 r3 r4 r5 r6 f0 f1 f2 f3 f4 f5 f6
  go_wp2_with fail
  clear c0 c1 c2 c3 c4 c5 c6
  refine (jr5 X _ _ (Cd c) HX1.out (fun q hq=>by have:=HCL.out q hq;omega) hSO.out.mine ⟨by omega,by omega,by omega,by omega⟩).mono ?_
  rintro e w3 ⟨u3,rfl,hu3,hb3⟩
  have HU3:=Lib.hid hu3
  obtain ⟨td,tt,tg,tr,rfl,s1,s2,s3,s4⟩:=hu3
  obtain ⟨A3,c3,rfl,-,-⟩:=s1.form
  obtain ⟨B3,d3,rfl,-,-⟩:=s2.form
  obtain ⟨C3,e3,rfl,-,-⟩:=s3.form
  obtain ⟨D3,f3,rfl,-,-⟩:=s4.form
  clear s1 s2 s3 s4
  have R3:=Lib.hid (R1.out.next hb3)
  have r0:=R3.out.at 0 rfl
  have r1:=R3.out.at 1 rfl
  have r2:=R3.out.at 2 rfl
  have r3:=R3.out.at 3 rfl
  have r4:=R3.out.at 4 rfl
  have r5:=R3.out.at 5 rfl
  have r6:=R3.out.at 6 rfl
  have g0:=R3.out.2.2 0 (by simp [jkr])
  have g1:=R3.out.2.2 1 (by simp [jkr])
  have g2:=R3.out.2.2 2 (by simp [jkr])
  have g3:=R3.out.2.2 3 (by simp [jkr])
  have g4:=R3.out.2.2 4 (by simp [jkr])
  have g5:=R3.out.2.2 5 (by simp [jkr])
  have g6:=R3.out.2.2 6 (by simp [jkr])
  go_wp2
  (try simp only [Exit.inBlock,Exit.then])
  refine bodyPost_ret (jtg (b:=w.heap.size) rfl rfl (jzb R3.out _ _ _ _ _ _ _)) rfl ⟨_,rfl,?_,?_⟩
  ·rw [HE.out]
   exact (HU3.out.keepS fun q hq=>jrx _ _ _ _ _ _ _ _ _ q (by have:=hq.1;omega)).moreS fun q hq=>⟨by have:=hq.1;omega,Nat.lt_of_lt_of_eq hq.2.1 (yb8 _ _ _ _ _ _ _ _ _).symm,hq.2.2.of (jrx _ _ _ _ _ _ _ _ _ q (by have:=hq.1;omega))⟩
  ·exact jig (bx hb1 hb3) (joc _ _ _ _ _ _ _ _ _) (Nat.le_refl _)
theorem jjx (σ:StoreD) (c:Nat→Nat) (g:Nat) (vs:List Value) (vl:Value) (w:World) (h:StoreC w c g σ vs vl) (n:Int) :
  Calls Tryz.prog 18 #[.pointer (some ⟨g,0,none⟩),.int .i64 n] w fun e w'=>∃ u,e = .returned u∧jhb w' (From w.heap.size w') (jce σ n) u∧Below w.heap.size w w' :=
 (jv5 σ c g vs vl w h n).mono fun _ _ ⟨v,h1,h2,h3⟩=>⟨v,h1,h2.moreS fun _ hk=>⟨hk.1,hk.2.1⟩,h3⟩
open Go.ChangeShapes Go.WideShapes Go.ChangeAt Go.RowKit Go.Deep
def yff (a:ActD):Prop:=a.name.size≤reachBytes∧a.text.size≤reachBytes∧ykc a.inp
abbrev ActP:=Int × Int × ByteArray × ByteArray × List Int
def ActD.of (y:ActP):ActD:=⟨y.1,y.2.1,y.2.2.1,y.2.2.2.1,y.2.2.2.2⟩
def Enc.actP:Enc ActP:=Enc.int.pair (Enc.int.pair (Enc.str.pair (Enc.str.pair Enc.int.slice)))
theorem Enc.act_of {w:World} {S:Nat→Prop} {y:ActP} {cs:List Value} (h:Enc.actP.rd w S y cs):Enc.act.rd w S (ActD.of y) cs:=by
 obtain ⟨c1,_,rfl,h1,c2,_,rfl,h2,c3,_,rfl,h3,c4,_,rfl,h4,v,rfl,h5⟩:=h
 have h1':c1 = [.int .i64 y.1]:=h1
 have h2':c2 = [.int .i64 y.2.1]:=h2
 have h3':c3 = [.string y.2.2.1]:=h3
 have h4':c4 = [.string y.2.2.2.1]:=h4
 subst h1' h2' h3' h4'
 exact ⟨v,rfl,h5⟩
theorem ylh {fs:Array Field} (hu:Tryz.prog.underlying 24=some (.struct fs)) {f0 f1 f2 f3 f4:Field} (hf:fs = #[f0,f1,f2,f3,f4]) (o0:f0.offset=0) (o1:f1.offset=1) (o2:f2.offset=2) (o3:f3.offset=3) (o4:f4.offset=4)
  (t0:f0.type=3) (t1:f1.type=3) (t2:f2.type=9) (t3:f3.type=9) (t4:f4.type=22):jfq Tryz.prog Enc.act 24 yff:=by
 have h:=jf7 (E:=Enc.actP) (t:=24) hu (by kernel_rfl) (by
  rw [hf]
  exact jcs (off:=0) o0 (by rw [t0];kernel_rfl) (by rw [t0];exact jh7 Tryz.underlying3) (jcs o1 (by rw [t1];kernel_rfl) (by rw [t1];exact jh7 Tryz.underlying3) (jcs o2 (by rw [t2];kernel_rfl) (by rw [t2];exact jl4 Tryz.underlying9)
   (jcs o3 (by rw [t3];kernel_rfl) (by rw [t3];exact jl4 Tryz.underlying9) (jit o4 (by rw [t4];kernel_rfl) (by rw [t4];exact ylo))))))
 intro H enc W base spare held fuel cs x h1 h2
 obtain ⟨y,hy,_,_,f2,f3,f4⟩:=h H enc W base spare held fuel cs x h1 h2
 exact ⟨ActD.of y,Enc.act_of hy,f2,f3,f4⟩
theorem yfq:jfq Tryz.prog Enc.act 24 yff:=ylh Tryz.underlying24 rfl rfl rfl rfl rfl rfl rfl rfl rfl rfl rfl
theorem ytw:Tryz.prog.underlying 44=some (.slice 24):=by kernel_rfl
theorem ys5:jfq Tryz.prog Enc.act.slice 44 (fun l=>l.length*72≤reachBytes∧∀ a,a∈l→yff a) :=
 (@jeu _ ⟨⟨0,0,⟨#[]⟩,⟨#[]⟩,[]⟩⟩ _ _ 44 24 _ (by kernel_rfl) (by kernel_rfl) (by decide) yfq).mono fun l h=>⟨by have:=h.1;rw [show Tryz.prog.bytesOf 24=72 from by kernel_rfl] at this;exact this,h.2⟩
theorem ytm {H:Type} {enc:TypeId × Value→H} {W:World} {base b0:Nat} {spare:Nat→Bool} {held:Bool} {r:Reach} {v:Value} {d:DataW H} {p:List MemPlace} (hv:Value.okWide Tryz.prog W r b0 24 v)
  (h:DataW.Trod enc Tryz.prog W base spare held 24 v d p) {ts:List TypeId} {ds:List (DataW H)} (hsz:(DataW.weightsEach Tryz.prog ts ds).all (· ≤ reachBytes)=true) {j:Nat} (ht:ts[j]? = some 24) (hd:ds[j]? = some d) :
  ∃ a,jgy W (Old W) a v∧yff a:=by
 obtain ⟨cs,rfl,_⟩:=okWide_struct Tryz.underlying24 hv
 obtain ⟨fuel,hf⟩:=h
 have hf':DataW.trod enc Tryz.prog W base spare held fuel 24 cs.toList=some (d,p):=hf
 obtain ⟨a,ha,hy⟩:=yfq H enc W base spare held fuel _ _ hf' (fun n hn=>by simpa using List.all_eq_true.1 hsz _ (DataW.weights_mem_each ht hd n hn))
 obtain ⟨vi,e,h1⟩:=ha
 refine ⟨a,⟨vi,?_,h1⟩,hy⟩
 have:cs = [.int .i64 a.kind,.int .i64 a.n,.string a.name,.string a.text,vi].toArray:=by rw [← e]
 rw [this]
open Go.ChangeShapes Go.WideShapes Go.ChangeAt Go.RowKit Go.Deep
theorem jyf {H:Type} {enc:TypeId × Value→H} {P:Program} {w:World} {base:Nat} {sp:Nat→Bool} {held:Bool} {fuel:Nat} {t e:TypeId} {n:Nat} {cs:List Value} {zs:List (List UInt8)} {p:List MemPlace}
  (ht:P.underlying t=some (.array n e)) (he:P.underlying e=some .string) (hce:P.cellsOf e=1) (hct:P.cellsOf t=n)
  (h:DataW.trod enc P w base sp held fuel t cs=some (.agg (zs.map fun z=>(DataW.lit (.string z):DataW H)),p)):cs=zs.map fun z=>Value.string (bs z):=by
 cases fuel with
 | zero=>simp [DataW.trod] at h
 | succ fuel =>
  simp only [DataW.trod,ht,hce,hct,Nat.mul_one] at h
  split at h
  ·rename_i hl
   obtain ⟨xs,hm,hx⟩:=Option.map_eq_some_iff.1 h
   have hxs:xs.map (·.1)=zs.map fun z=>(DataW.lit (.string z):DataW H):=by
    have:=congrArg Prod.fst hx
    simpa using this
   have hxl:xs.length=n:=by simpa using Lib.mapM_length hm
   have hzl:zs.length=n:=by
    have:=congrArg List.length hxs
    simp at this
    omega
   apply List.ext_getElem?
   intro i
   by_cases hi:i<n
   ·obtain ⟨b,hb,hf⟩:=Lib.mapM_at hm i i (by simp [hi])
    obtain ⟨s,hc,rfl,_⟩:=DataW.trod_string he hf
    have h1:cs[i]? = some (.string s):=by
     have:=congrArg (·[0]?) hc
     simpa [List.getElem?_take,List.getElem?_drop] using this
    have h2:(xs.map (·.1))[i]? = some (DataW.lit (.string s.data.toList):DataW H):=by simp [hb]
    rw [hxs] at h2
    simp only [List.getElem?_map,Option.map_eq_some_iff,DataW.lit.injEq,Lit.string.injEq] at h2
    obtain ⟨z,hz,e⟩:=h2
    rw [h1,List.getElem?_map,hz]
    simp only [Option.map_some]
    rw [e,ygm]
   ·rw [List.getElem?_eq_none (by omega),List.getElem?_eq_none (by simp;omega)]
  ·cases h
theorem ycm {P:Program} {W:World} {name:String} {zs:List (List UInt8)} {rest:List (String × DataW Unit)} {g:Nat} {t e:TypeId} {n:Nat}
  (hg:P.globalNamed name=some g) (hty:(P.globals[g]?).map (·.type)=some t) (ht:P.underlying t=some (.array n e)) (he:P.underlying e=some .string) (hce:P.cellsOf e=1) (hct:P.cellsOf t=n)
  (h:laidMet P ((name,.agg (zs.map fun z=>.lit (.string z))) :: rest) W):W.var? P name=some ((zs.map fun z=>Value.string (bs z)).toArray):=by
 obtain ⟨ps,⟨g',t',cs,fuel,p,q,hg',ht',hvar,hd,_,_⟩,_⟩:=h
 obtain rfl:=Option.some.inj (hg.symm.trans hg')
 obtain rfl:=Option.some.inj (hty.symm.trans ht')
 rw [hvar,← jyf ht he hce hct hd]
theorem yqs : "*" ++ "errors.errorString" = "*errors.errorString":=by decide
theorem yte (u:TypeId) (h:Tryz.prog.typeName? 3 u=some "*errors.errorString"):u=313 :=
 typeName_ptr_named (nm:= "errors.errorString") (by rw [yqs];kernel_rfl) (by kernel_rfl) (by decide) u (by rw [yqs];exact h)
theorem yed:(Rows.laid_internal_strconv_uint64pow10:DataW Unit)=Lib.tabData .u64 Lib.pow10Tab:=by rfl
theorem yl8:(Rows.laid_ratebook_text_policies:DataW Unit) = .agg (([] :: polW).map fun z=>.lit (.string z)):=by rfl
theorem yqr {W:World} {x1 x2 x4:String × DataW Unit} {r:List (String × DataW Unit)}
  (h:laidMet Tryz.prog (x1 :: x2 :: ("internal/strconv.uint64pow10",Rows.laid_internal_strconv_uint64pow10) :: x4 :: ("strconv.ErrRange",Rows.laid_strconv_ErrRange) :: ("strconv.ErrSyntax",Rows.laid_strconv_ErrSyntax) :: ("ratebook/text.policies",Rows.laid_ratebook_text_policies) :: r) W):VarsOk W:=by
 have h3:=h.tail.tail
 have h5:=h3.tail.tail
 have h6:=h5.tail
 have h7:=h6.tail
 rw [yed] at h3
 rw [yl8] at h7
 obtain ⟨a5,s5,v5,-,-,-⟩:=laid_sentinel h5 (g:=3) (by kernel_rfl) (by kernel_rfl) Tryz.underlying143 yte Tryz.underlying313 Tryz.underlying315 rfl rfl Tryz.underlying9 (by kernel_rfl) (by kernel_rfl)
 obtain ⟨a6,s6,v6,-,-,-⟩:=laid_sentinel h6 (g:=2) (by kernel_rfl) (by kernel_rfl) Tryz.underlying143 yte Tryz.underlying313 Tryz.underlying315 rfl rfl Tryz.underlying9 (by kernel_rfl) (by kernel_rfl)
 exact ⟨Lib.tabIs_of_head (g:=4) (t:=295) (e:=277) (n:=20) (by kernel_rfl) (by kernel_rfl) (by kernel_rfl) (by kernel_rfl) (by kernel_rfl) (by kernel_rfl) h3,
  ⟨_,_,v6⟩,⟨_,_,v5⟩,
  ycm (g:=0) (t:=214) (e:=9) (n:=8) (by kernel_rfl) (by kernel_rfl) (by kernel_rfl) (by kernel_rfl) (by kernel_rfl) (by kernel_rfl) h7⟩
end Go.Proofs.YthmlndmlnlfhnaaGreatDoor
