/- Part 48 of the proof that the card of HostNone holds. -/
import Derived.Test.YtbafmljidapmgaaGreatDoorN48
set_option maxHeartbeats 16000000
set_option maxRecDepth 100000
namespace Go.Proofs.YtbafmljidapmgaaGreatDoor.Hos
open Go RowKit Com Rw Lns Emu Scn
section
variable {Z Z' B:Zn} {W w w1 w2 w':World} {h d t:Nat} {p p':HP} {H H':Hst} {X:Tri} {T:Ter} {v sv:Value} {s b l:List Int} {ao:Option Addr} {n cp c:Nat}
def Told (B:Zn) (W w:World) (h:Nat) (H:Hst) (l:List Ev) (e:Ending) (w':World):Prop:=∃ v,e=.returned v/\Cq0 B w' v l/\Did B W w h H w'
theorem wp_of_sub {B:Zn} (hs:∀ k,HZn Z h p k->B k) (hn:∀ wr,Hf B w wr->Bt2 wr .u8 ao b):∀ wr,Hf (HZn Z h p) w wr->Bt2 wr .u8 ao b:=fun wr hf=>hn wr (hf.mono fun k _ hk=>hs k hk)
theorem ends_bytes (hx:HX Z W w h p H) (hs:∀ k,HZn Z h p k->B k) (hBd:∀ k,k<=b.length->Bd c (H.tri.hand (b.take k))) (hsl:H.sent.length<=1000000000000) (hb:Utf.Bytes b) (hsh:∀ wr,Hf B w wr->Bt2 wr .u8 ao b) (hn:b.length=n) (hn5:n<=100000) :
    Calls Tryz.prog 44 #[.pointer (some ⟨p.e,0,none⟩),.slice ao n cp] w (Told B W w h (H.bytes b) (H.told b)):=by
  have hup:∀ k,w.heap.size<=k->B k:=fun k hk=>hs k (.inl (hx.up k hk))
  have c2:w.cell? ⟨p.e,2,none⟩=some (.pointer (some ⟨p.d,0,none⟩)):=hx.eb.cell 2 rfl
  have hhd:=J0 (hand_any (X:=H.tri) (p:=p) (v:=p.pv) (s:=H.sent) (cp:=cp) hx hBd hb (wp_of_sub hs hsh) hn hn5)
  have hT9:=hBd b.length (J5 _)
  rw [List.take_length] at hT9
  have hsent:Hid (H.sent.length+(H.tri.hand b).T.rp.length<=140737488355328):=J0 (by have:=hT9.rh.rp;omega)
  have hY:Hid (∀ T',T'=noJr (noRp (H.tri.hand b).T)->(⟨(H.tri.hand b).dec,(H.tri.hand b).ps,T',H.sent++(H.tri.hand b).T.rp⟩:Hst)=H.bytes b):=J0 fun T' e=>by rw [e];rfl
  have hE:Hid ((H.tri.hand b).T.jr=H.told b):=J0 rfl
  generalize H.tri.hand b=Y at hhd hsent hY hE
  generalize H.bytes b=H9 at hY |-
  generalize H.told b=l9 at hE |-
  generalize H.sent=s at hhd hsent hY
  have hsub:Hid (∀ k,HZn Z h (p.at p.pv) k->B k):=J0 hs
  replace hup:=J0 hup
  clear hx hBd hb hsh hn hn5 hsl hT9 hs
  unfold Cm4 at hhd
  generalize p.pv=pv at hhd hsub
  go_enter Tryz.func44,Tryz.ntmps44
  go_upto_region 2 with ((go_at_call 68;(with_reducible refine (hhd.out).mono ?_);rintro e w1 ⟨⟨x1,rfl⟩,hD⟩))
  obtain ⟨⟨Z1,v1,hx1,hs1⟩,hf1⟩:=hD
  have c2':w1.cell? ⟨p.e,2,none⟩=some (.pointer (some ⟨p.d,0,none⟩)):=hx1.eb.cell 2 rfl
  have htz1:TZ Z1 W w1 p.d p.t Y.T:=hx1.tz
  have hrp:=J0 (tz_repl htz1)
  have hterm:=J0 (fun w2 (ht:TZ Z1 W w2 p.d p.t (noRp Y.T)) (hf:Scn.Fr Z1 TT w1 w2)=>hx1.term' ht hf)
  have hd1:Hid (∀ w2,Scn.Fr Z1 TT w1 w2->Hf B w w2):=J0 fun w2 hf=>(hf1.mono fun k _ hk=>hsub.out k hk).trans (Hf.of_fr hf) fun k hk hz=>by
    rcases hs1 k (.inl hz) with h1|h1
    · exact hsub.out k h1
    · omega
  have hz1:Hid (∀ k,HZn Z1 h (p.at v1) k->B k):=J0 fun k hk=>by
    rcases hs1 k hk with h1|h1
    · exact hsub.out k h1
    · exact hup.out k h1
  have hsz1:=hf1.size
  clear hx1 hf1 hs1 htz1
  generalize hYT:Y.T.rp=rpl at hrp hsent hY
  replace hYT:=J0 hYT
  go_upto_region 3 with (first
    | (go_at_call 70
       with_reducible refine (hrp.out).mono ?_
       rintro e w2 ⟨⟨v2,rfl,hrow⟩,ht2,hfr2⟩
       have hx2:=hterm.out _ ht2 hfr2
       have hf2:=J0 (hd1.out _ hfr2)
       have hsz2:=hfr2.size
       obtain ⟨a2,cc2,rfl,_,_,hn2⟩:=hrow.shape
       have hsd:Calls Tryz.prog 54 #[.pointer (some ⟨p.e,0,none⟩),.slice a2 rpl.length cc2] w2 (Cl2 Z1 W w2 h (p.at v1) (⟨Y.dec,Y.ps,noRp Y.T,s⟩:Hst) rpl):=send_any (H:=(⟨Y.dec,Y.ps,noRp Y.T,s⟩:Hst)) (p:=p.at v1) (cp:=cc2) hx2 hn2 hsent.out rfl
       unfold Cl2 at hsd
       replace hsd:=J0 hsd
       have hup2:Hid (∀ k,w2.heap.size<=k->B k):=J0 fun k hk=>hup.out k (by omega)
       clear hx2 ht2 hfr2 hrow hn2)
    |(go_at_call 54;(with_reducible refine (hsd.out).mono ?_);rintro e w3 ⟨⟨x3,rfl⟩,Z3,sv3,hx3,hf3,hs3⟩))
  have hsz3:=hf3.size
  have c2'':w3.cell? ⟨p.e,2,none⟩=some (.pointer (some ⟨p.d,0,none⟩)):=hx3.eb.cell 2 rfl
  have hz3:Hid (∀ k,HZn Z3 h ((p.at v1).snd sv3) k->B k):=J0 fun k hk=>by
    rcases hs3 k hk with h1|h1
    · exact hz1.out k h1
    · exact hup2.out k h1
  have hF3:Hid (Hf B w w3):=J0 (hf2.out.trans hf3 fun k _ hk=>hz1.out k hk)
  have htz3:TZ Z3 W w3 p.d p.t (noRp Y.T):=hx3.tz
  have hj:=tz_jour htz3
  rw [show (noRp Y.T).jr=Y.T.jr from rfl,hE.out] at hj
  replace hj:=J0 hj
  have hend:Hid (∀ v w4,w4.ownsRow 0 72 10 v l9.length (fl evL l9)->(∀ g,v.ownBlock=some g->Z3 g)->TZ Z3 W w4 p.d p.t (noJr (noRp Y.T))->Scn.Fr Z3 TT w3 w4->Cq0 B w4 v l9/\Did B W w h H9 w4):=J0 fun v w4 h1 h2 h3 h4=>by
    have hx4:=HX.term' (p:=p.snd sv3) (v:=v1) (X:=(⟨Y.dec,Y.ps,noRp Y.T⟩:Tri)) (s:=s++rpl) hx3 h3 h4
    have e:=hY.out _ rfl
    refine ⟨⟨h1,fun g hg=>hz3.out g (.inl (h2 g hg))⟩,⟨Z3,(p.snd sv3).at v1,?_,hz3.out⟩,hF3.out.trans (Hf.of_fr h4) fun k _ hk=>hz3.out k (.inl hk)⟩
    rw [<- e]
    exact hx4
  clear hx3 hf3 hs3 htz3 hsd
  go_wp2_with ((go_at_call 50;(with_reducible refine (hj.out).mono ?_);rintro e w4 ⟨⟨v4,rfl,hr4,hz4⟩,ht4,hfr4⟩))
  obtain ⟨h5,h6⟩:=hend.out _ _ hr4 hz4 ht4 hfr4
  obtain ⟨a4,c4,rfl,_,_⟩:=Ad0 hr4
  replace h5:=J0 h5
  clear hr4
  go_ret
  exact ⟨_,rfl,h5.out,h6⟩
theorem hbytes_any (hB:HB B W w h H) (hBd:∀ k,k<=b.length->Bd c (H.tri.hand (b.take k))) (hsl:H.sent.length<=1000000000000) (hb:Utf.Bytes b) (hsh:∀ wr,Hf B w wr->Bt2 wr .u8 ao b) (hn:b.length=n) (hn5:n<=100000) :
  Calls Tryz.prog 12 #[.pointer (some ⟨h,0,none⟩),.slice ao n cp] w (Told B W w h (H.bytes b) (H.told b)):=by
 obtain ⟨Z,p,hx,hs⟩:=hB
 have hm:=J0 (isMade_yes hx)
 have c0:=hx.hb.cell 0 (v:=.pointer (some ⟨p.e,0,none⟩)) rfl
 have hby:=J0 (ends_bytes (cp:=cp) hx hs hBd hsl hb hsh hn hn5)
 clear hx hs hBd hsh hb hn hn5 hsl
 unfold Told at hby
 generalize hE:H.told b=l9 at hby |-
 go_enter Tryz.func12,Tryz.ntmps12
 go_wp2_with (first|(go_at_call 43;(with_reducible refine (hm.out).mono ?_);rintro e w1 ⟨rfl,rfl⟩)|(go_at_call 44;(with_reducible refine (hby.out).mono ?_);rintro e w2 ⟨v2,rfl,h1,h2⟩))
 obtain ⟨a4,c4,rfl,_,_⟩:=Ad0 h1.1
 replace h1:=J0 h1
 go_ret
 exact ⟨_,rfl,h1.out,h2⟩
end
end Go.Proofs.YtbafmljidapmgaaGreatDoor.Hos
