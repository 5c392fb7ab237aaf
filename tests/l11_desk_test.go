package tests

import (
	"testing"

	"loop.example/g00634/impl"
)

// plainDesk is the desk's box, written out.
func plainDesk() impl.Box {
	b := impl.Box{Binds: []impl.Bind{{Vlan: 10}, {Vlan: 11, Iface: 1}, {Vlan: 20, Tenant: 1}, {Vlan: 21, Tenant: 1, Iface: 1}}}
	for _, key := range []string{"red", "blue"} {
		low, high := impl.Net{Addr: 0x0A000000, Len: 24}, impl.Net{Addr: 0x0A000100, Len: 24}
		b.Tenants = append(b.Tenants, impl.Tenant{Key: key, Quota: 4, Inst: impl.Inst{
			Ifaces: []impl.Iface{{Addr: 0x0A000001, Net: low, Cost: 1, Up: true}, {Addr: 0x0A000101, Net: high, Cost: 1, Up: true}},
			Rib:    impl.Rib{Routes: []impl.Route{{Net: low, Metric: 1, Changed: true}, {Net: high, Metric: 1, Iface: 1, Changed: true}}},
		}})
	}
	return b
}

// TestDeskBox: it is right, and made anew each time, of tenants that share nothing.
func TestDeskBox(t *testing.T) {
	holdBox(t, "the desk's box", boxOf(impl.DeskBox()), boxOf(plainDesk()))
	b := impl.DeskBox()
	scribble(b.Tenants[0].Inst)
	b.Tenants[0] = impl.Tenant{}
	if !sameTenant(b.Tenants[1], plainDesk().Tenants[1]) {
		t.Errorf("the tenant 1 is written into by the other one: %+v", b.Tenants[1])
	}
	b.Binds[0] = impl.Bind{}
	holdBox(t, "and again", boxOf(impl.DeskBox()), boxOf(plainDesk()))
}

// TestDeskBoxAtWork: what each tenant sends goes to its own Vlans alone, signed by its own Key.
func TestDeskBoxAtWork(t *testing.T) {
	b := impl.BoxTick(impl.DeskBox())
	holdBox(t, "a tick", b, plainBoxTick(plainDesk()))
	for tenant, key := range []string{"red", "blue"} {
		for i, sent := range impl.Drain(b.Box, int64(tenant)).Sent {
			f := impl.FrameRead(sent.Bytes).Frame
			opened := impl.RipOpen(impl.DgramRead(f.Data).Dgram.Data, key, 0)
			if f.Vlan != int64(10*tenant+10+i) || opened.Code != impl.OK || opened.Seq != 1 {
				t.Errorf("the tenant %d sent %+v: %+v", tenant, sent, opened)
			}
		}
	}
	// The frame of chapter 12 that 10.0.0.2 sends the tenant 0.
	n := impl.Net{Addr: 0x0A010000, Len: 16}
	s := told{vlan: 10, src: by0, rip: tell(impl.Entry{Net: n, Metric: 3}), key: "red", seq: 7}
	first := impl.BoxIn(b.Box, 0, s.frame())
	if got := impl.RibFind(first.Box.Tenants[0].Inst.Rib, n); got.Metric != 4 || got.Next != by0 {
		t.Errorf("told: got %+v", got)
	}
	again := impl.BoxIn(first.Box, 0, s.frame())
	if got := again.Box.Tenants[0].Drops; got != 1 || impl.Observe(again.Box, 1) != impl.Observe(b.Box, 1) {
		t.Errorf("told again: got %d", got)
	}
}
