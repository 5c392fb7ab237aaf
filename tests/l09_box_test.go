package tests

import (
	"cmp"
	"encoding/binary"
	"math"
	"math/rand"
	"slices"
	"strings"
	"testing"

	"loop.example/g00634/impl"
)

const (
	mostTenants = 3
	mostBinds   = 9
	mostHeard   = 8
	mostQuota   = 6
	groupAddr   = 0xE0000009
	ripPort     = 520
)

var (
	tenantKeys  = []string{"red", "blue", "green"}
	edgeTimes   = []int64{0, 1, impl.MaxTime - 1, impl.MaxTime}
	wrongQuotas = []int64{0, -1, -6, 7, 8, 256 + 1, 1<<32 + 1, math.MaxInt64, math.MinInt64}
	wrongPorts  = []int64{-1, -3, 4, 5, 256, 1 << 32, 1<<32 + 1, math.MaxInt64, math.MinInt64}
)

// someTenant is right, with something in all that it has; at tells its Key and Drops.
func someTenant(at int) impl.Tenant {
	return impl.Tenant{
		Inst:  someInst(2),
		Key:   tenantKeys[at],
		Quota: 4,
		Ring:  []impl.Sent{{Iface: 1, Bytes: "one"}, {Iface: 0, Bytes: "two"}},
		Heard: []impl.Seen{{From: by0, Seq: 3}, {From: by1, Seq: 9}},
		Drops: 7 + int64(at),
	}
}

// someBox is right, of so many tenants of the same addresses, each on Vlans of its own of the Port 0: 10 and 11, 20 and 21, 30 and 31.
func someBox(many int) impl.Box {
	b := impl.Box{Lost: 5}
	for at := range many {
		b.Tenants = append(b.Tenants, someTenant(at))
		for iface := range int64(2) {
			b.Binds = append(b.Binds, impl.Bind{Vlan: 10*int64(at) + 10 + iface, Tenant: int64(at), Iface: iface})
		}
	}
	return b
}

// someHeard are rising, of addresses that no Iface of someIfaces but the third one covers.
func someHeard(many int) []impl.Seen {
	var l []impl.Seen
	for i := range int64(many) {
		l = append(l, impl.Seen{From: 0x0A000F00 + i, Seq: 100 + i})
	}
	return l
}

// someRing is right, of so many.
func someRing(many int) []impl.Sent {
	var l []impl.Sent
	for i := range many {
		l = append(l, impl.Sent{Iface: int64(i % 3), Bytes: strings.Repeat("r", i)})
	}
	return l
}

// someBinds are rising, of two tenants of two Ifaces, on all Ports.
func someBinds(many int) []impl.Bind {
	var l []impl.Bind
	for i := range int64(many) {
		l = append(l, impl.Bind{Port: min(i/2, 3), Vlan: 1 + i, Tenant: i % 2, Iface: i / 2 % 2})
	}
	return l
}

func copyTenant(t impl.Tenant) impl.Tenant {
	t.Inst.Ifaces = slices.Clone(t.Inst.Ifaces)
	t.Inst.Rib.Routes = slices.Clone(t.Inst.Rib.Routes)
	t.Ring = slices.Clone(t.Ring)
	t.Heard = slices.Clone(t.Heard)
	return t
}

// copyBox shares no list with what it is given.
func copyBox(b impl.Box) impl.Box {
	tenants := b.Tenants
	b.Tenants = nil
	for _, t := range tenants {
		b.Tenants = append(b.Tenants, copyTenant(t))
	}
	b.Binds = slices.Clone(b.Binds)
	b.Leaks = slices.Clone(b.Leaks)
	return b
}

// with is the same box, but for what is put there; what it is given stays as it is.
func with(b impl.Box, put func(*impl.Box)) impl.Box {
	b = copyBox(b)
	put(&b)
	return b
}

// withTenant does likewise for one tenant.
func withTenant(b impl.Box, at int, put func(*impl.Tenant)) impl.Box {
	return with(b, func(b *impl.Box) { put(&b.Tenants[at]) })
}

// atNow has all tenants at that time.
func atNow(b impl.Box, now int64) impl.Box {
	return with(b, func(b *impl.Box) {
		for i := range b.Tenants {
			b.Tenants[i].Inst.Now = now
		}
	})
}

// boxOf is what is told of a box.
func boxOf(b impl.Box) impl.BoxOut {
	return impl.BoxOut{Box: b}
}

// noBox is a code, and nothing beside it.
func noBox(code int64) impl.BoxOut {
	return impl.BoxOut{Code: code}
}

// sameTenant takes an empty list and none as the same.
func sameTenant(a impl.Tenant, b impl.Tenant) bool {
	return sameInst(a.Inst, b.Inst) && a.Key == b.Key && a.Quota == b.Quota && slices.Equal(a.Ring, b.Ring) && slices.Equal(a.Heard, b.Heard) && a.Drops == b.Drops
}

func sameBox(a impl.Box, b impl.Box) bool {
	return slices.EqualFunc(a.Tenants, b.Tenants, sameTenant) && slices.Equal(a.Binds, b.Binds) && slices.Equal(a.Leaks, b.Leaks) && a.Lost == b.Lost
}

func holdBox(t *testing.T, what string, got impl.BoxOut, want impl.BoxOut) {
	t.Helper()
	if got.Code != want.Code || !sameBox(got.Box, want.Box) || !slices.Equal(got.Sent, want.Sent) {
		t.Errorf("%s:\n got %+v\nwant %+v", what, got, want)
	}
	if got.Code == impl.OK && !plainBox(got.Box) {
		t.Errorf("%s: what is told is not right: %+v", what, got.Box)
	}
}

func plainTenant(t impl.Tenant) bool {
	for _, s := range t.Ring {
		if !isOneOf(s.Iface, 0, 2) || len(s.Bytes) > 1000 {
			return false
		}
	}
	for i, s := range t.Heard {
		for _, later := range t.Heard[i+1:] {
			if s.From >= later.From {
				return false
			}
		}
		if !isOneOf(s.From, 0, topAddr) || !isOneOf(s.Seq, 0, impl.MaxTime) {
			return false
		}
	}
	return plainInst(t.Inst) && isOneOf(int64(len(t.Key)), 1, 32) && isOneOf(t.Quota, 1, 6) && int64(len(t.Ring)) <= t.Quota && len(t.Heard) <= 8 && isOneOf(t.Drops, 0, impl.MaxTime)
}

func plainThere(b impl.Box, tenant int64) bool {
	return isOneOf(tenant, 0, int64(len(b.Tenants))-1)
}

func plainBox(b impl.Box) bool {
	if len(b.Tenants) < 1 || len(b.Tenants) > 3 || len(b.Binds) > 9 {
		return false
	}
	for _, t := range b.Tenants {
		if !plainTenant(t) || t.Inst.Now != b.Tenants[len(b.Tenants)-1].Inst.Now {
			return false
		}
	}
	for i, x := range b.Binds {
		if !isOneOf(x.Port, 0, 3) || !isOneOf(x.Vlan, 1, 4094) || !plainThere(b, x.Tenant) || !plainHas(b.Tenants[x.Tenant].Inst, x.Iface) {
			return false
		}
		for _, later := range b.Binds[i+1:] {
			if 10000*x.Port+x.Vlan >= 10000*later.Port+later.Vlan {
				return false
			}
		}
	}
	return plainLeaksRight(b.Leaks) && isOneOf(b.Lost, 0, impl.MaxTime)
}

func plainBind(b impl.Box, port int64, vlan int64) impl.Bind {
	if plainBox(b) {
		for _, x := range b.Binds {
			if x.Port == port && x.Vlan == vlan {
				return x
			}
		}
	}
	return impl.Bind{}
}

// plainSent is what a tenant that may be in the midst of a tick sends there.
func plainSent(t impl.Tenant, l []impl.Bind, tenant int64, iface int64, all bool) string {
	said := plainOffer(t.Inst, iface, all)
	if len(said) == 0 || t.Inst.Now == 0 {
		return ""
	}
	for _, x := range l {
		if x.Tenant == tenant && x.Iface == iface {
			s := told{vlan: x.Vlan, src: t.Inst.Ifaces[iface].Addr, rip: tell(said...), key: t.Key, seq: t.Inst.Now}
			return s.frame()
		}
	}
	return ""
}

func plainWrap(b impl.Box, tenant int64, iface int64, all bool) string {
	if !plainBox(b) || !plainThere(b, tenant) {
		return ""
	}
	return plainSent(b.Tenants[tenant], b.Binds, tenant, iface, all)
}

// told is what a neighbour sends, part by part.
type told struct {
	vlan int64
	src  int64
	rip  impl.Rip
	key  string
	seq  int64
}

// dgram is right, if its parts are.
func (s told) dgram() impl.Dgram {
	return impl.Dgram{Src: s.src, Dst: groupAddr, SrcPort: ripPort, DstPort: ripPort, Ttl: 1, Data: plainSigned(s.rip, s.key, s.seq)}
}

func (s told) frame() string {
	return s.framed(s.dgram())
}

// framed carries another datagram instead.
func (s told) framed(d impl.Dgram) string {
	return plainFrame(impl.Frame{Vlan: s.vlan, Data: plainDgram(d)})
}

// plainVlan is the Vlan of a frame's bytes; 0 of what is none.
func plainVlan(frame string) int64 {
	if len(frame) < frameSize || len(frame) > frameSize+mostFrame || frame[:14] != strings.Repeat("\x00", 12)+"\x81\x00" || frame[16:18] != "\x08\x00" {
		return 0
	}
	if vlan := wordAt(frame, 14); vlan <= 4094 {
		return vlan
	}
	return 0
}

// plainOpened reads what is right for sure.
func plainOpened(text string) (impl.Rip, int64) {
	r := impl.Rip{Cmd: int64(text[0])}
	b := []byte(text)
	at := ripHeadSize
	for ; b[at+1] != 0xFF; at += entrySize {
		mask := binary.BigEndian.Uint32(b[at+8:])
		length := int64(0)
		for ; length < 32 && mask>>(31-length)&1 == 1; length++ {
		}
		r.Entries = append(r.Entries, impl.Entry{
			Net:    impl.Net{Addr: int64(binary.BigEndian.Uint32(b[at+4:])), Len: length},
			Next:   int64(binary.BigEndian.Uint32(b[at+12:])),
			Metric: int64(b[at+19]),
			Tag:    wordAt(text, at+2),
		})
	}
	return r, int64(binary.BigEndian.Uint32(b[at+4:]))
}

// plainTaken changes the tenant, if it takes a frame's Data.
func plainTaken(t *impl.Tenant, iface int64, data string) bool {
	if plainCode(data) != impl.OK || data[16:24] != "\xe0\x00\x00\x09\x02\x08\x02\x08" || data[8] != 1 {
		return false
	}
	src, text := int64(binary.BigEndian.Uint32([]byte(data[12:]))), data[dgramSize:]
	at := slices.IndexFunc(t.Heard, func(s impl.Seen) bool { return s.From == src })
	last := int64(0)
	if at >= 0 {
		last = t.Heard[at].Seq
	}
	if plainOpenCode(text, t.Key, last) != impl.OK {
		return false
	}
	rip, seq := plainOpened(text)
	heard := plainHear(t.Inst, iface, src, rip)
	if heard.Code != impl.OK || at < 0 && len(t.Heard) == 8 {
		return false
	}
	if at < 0 {
		at = len(t.Heard)
		t.Heard = append(t.Heard, impl.Seen{From: src})
	}
	t.Heard[at].Seq = seq
	slices.SortFunc(t.Heard, func(a, b impl.Seen) int { return cmp.Compare(a.From, b.From) })
	t.Inst = heard.Inst
	return true
}

// plainMore is one more, if that is a time.
func plainMore(n int64) int64 {
	if n == impl.MaxTime {
		return n
	}
	return n + 1
}

func plainIn(b impl.Box, port int64, frame string) impl.BoxOut {
	if len(frame) > impl.MaxBytes {
		return noBox(impl.ErrSize)
	}
	if !plainBox(b) {
		return noBox(impl.ErrForm)
	}
	b = copyBox(b)
	bind := plainBind(b, port, plainVlan(frame))
	if bind.Vlan == 0 {
		b.Lost = plainMore(b.Lost)
		return boxOf(b)
	}
	t := &b.Tenants[bind.Tenant]
	if !plainTaken(t, bind.Iface, frame[frameSize:]) {
		t.Drops = plainMore(t.Drops)
	}
	return boxOf(b)
}

func plainBoxTick(b impl.Box) impl.BoxOut {
	if !plainBox(b) {
		return noBox(impl.ErrForm)
	}
	now := b.Tenants[0].Inst.Now + 1
	if now > mostStep {
		return noBox(impl.ErrFull)
	}
	b = copyBox(b)
	var ribs []impl.Rib
	for i := range b.Tenants {
		t := &b.Tenants[i]
		t.Inst = plainStep(t.Inst).Inst
		for iface := range int64(len(t.Inst.Ifaces)) {
			sent := plainSent(*t, b.Binds, int64(i), iface, now%3 == 0)
			if sent != "" && int64(len(t.Ring)) < t.Quota {
				t.Ring = append(t.Ring, impl.Sent{Iface: iface, Bytes: sent})
			} else if sent != "" {
				t.Drops = plainMore(t.Drops)
			}
		}
		ribs = append(ribs, plainQuiet(t.Inst.Rib))
	}
	for i, rib := range plainLeakOnce(ribs, b.Leaks, now) {
		b.Tenants[i].Inst.Rib = rib
	}
	return boxOf(b)
}

func plainDrain(b impl.Box, tenant int64) impl.BoxOut {
	if !plainBox(b) {
		return noBox(impl.ErrForm)
	}
	if !plainThere(b, tenant) {
		return noBox(impl.ErrNone)
	}
	sent := b.Tenants[tenant].Ring
	b = withTenant(b, int(tenant), func(t *impl.Tenant) { t.Ring = nil })
	return impl.BoxOut{Box: b, Sent: sent}
}

func plainLink(b impl.Box, tenant int64, iface int64, up bool) impl.BoxOut {
	if !plainBox(b) {
		return noBox(impl.ErrForm)
	}
	if !plainThere(b, tenant) {
		return noBox(impl.ErrNone)
	}
	out := plainDown(b.Tenants[tenant].Inst, iface)
	if up {
		out = plainUp(b.Tenants[tenant].Inst, iface)
	}
	if out.Code != impl.OK {
		return noBox(out.Code)
	}
	return boxOf(withTenant(b, int(tenant), func(t *impl.Tenant) { t.Inst = out.Inst }))
}

// plainNum are the bytes of a number: the library's are those of the document.
func plainNum(l ...int64) string {
	var b []byte
	for _, n := range l {
		b = binary.AppendVarint(b, n)
	}
	return string(b)
}

func plainObserve(b impl.Box, tenant int64) string {
	if !plainBox(b) || !plainThere(b, tenant) {
		return ""
	}
	t := b.Tenants[tenant]
	out := plainNum(t.Inst.Now, t.Drops, int64(len(t.Inst.Rib.Routes)))
	for _, r := range t.Inst.Rib.Routes {
		changed := map[bool]int64{true: 1}[r.Changed]
		out += plainNum(r.Net.Addr, r.Net.Len, r.Metric, r.Next, r.Iface, r.Tag, r.Until, r.Bin, changed)
	}
	out += plainNum(int64(len(t.Ring)))
	for _, s := range t.Ring {
		out += plainNum(s.Iface, int64(len(s.Bytes))) + s.Bytes
	}
	return out
}

// holdBoxes asks each call of a box what the plain ones tell of it.
func holdBoxes(t *testing.T, what string, b impl.Box, port int64, frame string, tenant int64, iface int64) {
	t.Helper()
	if got := impl.BoxRight(b); got != plainBox(b) {
		t.Errorf("%s: BoxRight(%+v): got %v", what, b, got)
	}
	for _, x := range b.Tenants[:min(len(b.Tenants), mostTenants+1)] {
		if got := impl.TenantRight(x); got != plainTenant(x) {
			t.Errorf("%s: TenantRight(%+v): got %v", what, x, got)
		}
	}
	if got, want := impl.BindOf(b, port, plainVlan(frame)), plainBind(b, port, plainVlan(frame)); got != want {
		t.Errorf("%s: BindOf(%+v, %d): got %+v, want %+v", what, b.Binds, port, got, want)
	}
	for _, all := range []bool{true, false} {
		if got, want := impl.Wrap(b, tenant, iface, all), plainWrap(b, tenant, iface, all); got != want {
			t.Errorf("%s: Wrap(%+v, %d, %d, %v):\n got %x\nwant %x", what, b, tenant, iface, all, got, want)
		}
		holdBox(t, what+": LinkSet", impl.LinkSet(b, tenant, iface, all), plainLink(b, tenant, iface, all))
	}
	holdBox(t, what+": BoxIn", impl.BoxIn(b, port, frame), plainIn(b, port, frame))
	holdBox(t, what+": BoxTick", impl.BoxTick(b), plainBoxTick(b))
	holdBox(t, what+": Drain", impl.Drain(b, tenant), plainDrain(b, tenant))
	if got, want := impl.Observe(b, tenant), plainObserve(b, tenant); got != want {
		t.Errorf("%s: Observe(%+v, %d):\n got %x\nwant %x", what, b, tenant, got, want)
	}
}

// tenantEdge is a change of a tenant that is right, and whether it is right behind it.
type tenantEdge struct {
	what  string
	right bool
	put   func(*impl.Tenant)
}

// edges has a change for each of some values.
func edges[V any](what string, right bool, l []V, put func(*impl.Tenant, V)) []tenantEdge {
	var out []tenantEdge
	for _, v := range l {
		out = append(out, tenantEdge{what, right, func(t *impl.Tenant) { put(t, v) }})
	}
	return out
}

func tenantEdges() []tenantEdge {
	key := func(t *impl.Tenant, v string) { t.Key = v }
	quota := func(t *impl.Tenant, v int64) { t.Quota, t.Ring = v, nil }
	full := func(t *impl.Tenant, v int64) { t.Quota, t.Ring = v, someRing(int(v)) }
	more := func(t *impl.Tenant, v int64) { t.Quota, t.Ring = v, someRing(int(v)+1) }
	ring := func(t *impl.Tenant, v int) { t.Quota, t.Ring = 6, someRing(v) }
	first := func(t *impl.Tenant, v int64) { t.Ring[0].Iface = v }
	last := func(t *impl.Tenant, v int64) { t.Ring[1].Iface = v }
	sizes := func(t *impl.Tenant, v int) { t.Ring[0].Bytes = strings.Repeat("x", v) }
	lastSize := func(t *impl.Tenant, v int) { t.Ring[1].Bytes = strings.Repeat("x", v) }
	heard := func(t *impl.Tenant, v int) { t.Heard = someHeard(v) }
	from := func(t *impl.Tenant, v int64) { t.Heard = []impl.Seen{{From: v, Seq: 1}} }
	froms := func(t *impl.Tenant, v []int64) {
		t.Heard = nil
		for _, n := range v {
			t.Heard = append(t.Heard, impl.Seen{From: n, Seq: 5})
		}
	}
	firstSeq := func(t *impl.Tenant, v int64) { t.Heard[0].Seq = v }
	lastSeq := func(t *impl.Tenant, v int64) { t.Heard[1].Seq = v }
	drops := func(t *impl.Tenant, v int64) { t.Drops = v }
	inst := func(t *impl.Tenant, v impl.Inst) { t.Inst = v }
	wrongLong := []int{9, 10, 256, 257, impl.MaxList, impl.MaxList + 1}
	wrongSizes := []int{1001, 1002, 1256, impl.MaxBytes, impl.MaxBytes + 1}
	return slices.Concat(
		edges("Key", true, append([]string{"k", strings.Repeat("k", 32)}, rightKeys...), key),
		edges("Key", false, append([]string{"", strings.Repeat("k", 33)}, wrongKeys...), key),
		edges("Quota", true, []int64{1, 2, 5, 6}, quota),
		edges("Quota", false, wrongQuotas, quota),
		edges("a full Ring", true, []int64{1, 2, 3, 4, 5, 6}, full),
		edges("one more than Quota", false, []int64{1, 2, 3, 4, 5, 6}, more),
		edges("Ring", true, []int{0, 1, 6}, ring),
		edges("Ring", false, []int{7, 8, 256, impl.MaxList, impl.MaxList + 1}, ring),
		edges("first Iface in the Ring", true, []int64{0, 1, 2}, first),
		edges("first Iface in the Ring", false, wrongPlaces, first),
		edges("last Iface in the Ring", true, []int64{0, 1, 2}, last),
		edges("last Iface in the Ring", false, wrongPlaces, last),
		edges("Bytes", true, []int{0, 1, 999, 1000}, sizes),
		edges("Bytes", false, wrongSizes, sizes),
		edges("last Bytes", true, []int{0, 1, 999, 1000}, lastSize),
		edges("last Bytes", false, wrongSizes, lastSize),
		edges("Heard", true, []int{0, 1, 2, 7, 8}, heard),
		edges("Heard", false, wrongLong, heard),
		edges("From", true, edgeAddrs, from),
		edges("From", false, wrongAddrs, from),
		edges("Froms", true, [][]int64{{0, topAddr}, {1, 2, 3}, {0, 256, 257}}, froms),
		edges("Froms", false, [][]int64{{1, 1}, {2, 1}, {1, 2, 2}, {1, 3, 2}, {2, 1, 3}, {3, 1, 2}, {topAddr, 0}, {0, 1, topAddr + 1}, {-1, 0}, {1, 2, 1}}, froms),
		edges("first Seq", true, edgeTimes, firstSeq),
		edges("first Seq", false, wrongLasts, firstSeq),
		edges("last Seq", true, edgeTimes, lastSeq),
		edges("last Seq", false, wrongLasts, lastSeq),
		edges("Drops", true, edgeTimes, drops),
		edges("Drops", false, wrongLasts, drops),
		edges("Inst", true, []impl.Inst{someInst(2), mixedInst(), withDown(someInst(2), 1), someInst(3)}, inst),
		edges("Inst", false, wrongInsts(), inst),
	)
}

func TestTenantRight(t *testing.T) {
	for _, x := range tenantEdges() {
		for at := range mostTenants {
			tenant := someTenant(at)
			x.put(&tenant)
			if got := impl.TenantRight(tenant); got != x.right || got != plainTenant(tenant) {
				t.Errorf("%s: TenantRight(%+v): got %v", x.what, tenant, got)
			}
		}
	}
	for many := range mostIfaces + 1 {
		tenant := impl.Tenant{Inst: someInst(many), Key: "k", Quota: 1}
		if !impl.TenantRight(tenant) {
			t.Errorf("TenantRight of %d Ifaces: got false", many)
		}
	}
	if impl.TenantRight(impl.Tenant{}) {
		t.Errorf("TenantRight of the zero one: got true")
	}
	if !impl.TenantRight(impl.Tenant{Key: "k", Quota: 1, Ring: []impl.Sent{}, Heard: []impl.Seen{}}) {
		t.Errorf("TenantRight of empty lists: got false")
	}
	// A Ring may hold what was sent by an Iface that is not there.
	if !impl.TenantRight(impl.Tenant{Key: "k", Quota: 1, Ring: []impl.Sent{{Iface: 2}}}) {
		t.Errorf("TenantRight of no Ifaces, and one in the Ring: got false")
	}
}

// boxEdge is the same of a box of two tenants.
type boxEdge struct {
	what  string
	right bool
	put   func(*impl.Box)
}

// bindEdges are of a Bind at that place among nine.
func bindEdges(at int) []boxEdge {
	var out []boxEdge
	one := func(what string, right bool, l []int64, put func(*impl.Bind, int64)) {
		for _, v := range l {
			out = append(out, boxEdge{what, right, func(b *impl.Box) {
				b.Binds = someBinds(9)
				put(&b.Binds[at], v)
			}})
		}
	}
	one("Port", false, wrongPorts, func(x *impl.Bind, v int64) { x.Port = v })
	one("Vlan", false, wrongVlans, func(x *impl.Bind, v int64) { x.Vlan = v })
	one("Tenant", false, append([]int64{2}, wrongParties...), func(x *impl.Bind, v int64) { x.Tenant = v })
	one("Iface", false, append([]int64{2}, wrongPlaces...), func(x *impl.Bind, v int64) { x.Iface = v })
	one("Tenant", true, []int64{0, 1}, func(x *impl.Bind, v int64) { x.Tenant = v })
	one("Iface", true, []int64{0, 1}, func(x *impl.Bind, v int64) { x.Iface = v })
	return out
}

func boxEdges() []boxEdge {
	var out []boxEdge
	add := func(what string, right bool, put func(*impl.Box)) {
		out = append(out, boxEdge{what, right, put})
	}
	binds := func(what string, right bool, l ...impl.Bind) {
		add(what, right, func(b *impl.Box) { b.Binds = l })
	}
	for _, n := range edgeTimes {
		add("Lost", true, func(b *impl.Box) { b.Lost = n })
	}
	for _, n := range wrongLasts {
		add("Lost", false, func(b *impl.Box) { b.Lost = n })
	}
	for many := range mostBinds + 1 {
		add("so many Binds", true, func(b *impl.Box) { b.Binds = someBinds(many) })
	}
	for _, many := range []int{10, 11, 256, 257, impl.MaxList, impl.MaxList + 1} {
		add("too many Binds", false, func(b *impl.Box) { b.Binds = someBinds(many) })
	}
	for at := range mostBinds {
		out = append(out, bindEdges(at)...)
	}
	for _, port := range []int64{0, 1, 2, 3} {
		for _, vlan := range edgeVlans {
			binds("an only one", true, impl.Bind{Port: port, Vlan: vlan, Tenant: 1, Iface: 1})
		}
	}
	binds("two of one Iface", true, impl.Bind{Vlan: 7}, impl.Bind{Vlan: 8})
	binds("two of one Vlan", true, impl.Bind{Port: 0, Vlan: 7}, impl.Bind{Port: 1, Vlan: 7, Tenant: 1})
	binds("a greater Port of a less Vlan", true, impl.Bind{Port: 1, Vlan: 4094}, impl.Bind{Port: 2, Vlan: 1})
	binds("a less Port", false, impl.Bind{Port: 2, Vlan: 7}, impl.Bind{Port: 1, Vlan: 8})
	binds("a less Vlan", false, impl.Bind{Port: 2, Vlan: 8}, impl.Bind{Port: 2, Vlan: 7})
	binds("alike", false, impl.Bind{Port: 2, Vlan: 8}, impl.Bind{Port: 2, Vlan: 8})
	binds("alike, of others", false, impl.Bind{Port: 2, Vlan: 8}, impl.Bind{Port: 2, Vlan: 8, Tenant: 1, Iface: 1})
	binds("alike, another one between", false, impl.Bind{Port: 0, Vlan: 8}, impl.Bind{Port: 0, Vlan: 9}, impl.Bind{Port: 0, Vlan: 8})
	binds("the zero one", false, impl.Bind{})
	for many := range mostRules + 1 {
		add("so many rules", true, func(b *impl.Box) { b.Leaks = someLeaks(many) })
	}
	for _, many := range []int{5, 6, 256, impl.MaxList, impl.MaxList + 1} {
		add("too many rules", false, func(b *impl.Box) { b.Leaks = someLeaks(many) })
	}
	for _, x := range wrongLeaks() {
		add("a wrong rule", false, func(b *impl.Box) { b.Leaks = []impl.Leak{someLeak(), x} })
	}
	add("a rule of a tenant that is not there", true, func(b *impl.Box) { b.Leaks = []impl.Leak{{From: 2, To: 0, Add: 1, Tag: 1000}} })
	return append(out, nowEdges()...)
}

// nowEdges are of the tenants as such, and of their times.
func nowEdges() []boxEdge {
	out := []boxEdge{
		{"no tenants", false, func(b *impl.Box) { b.Tenants, b.Binds = nil, nil }},
		{"an empty list of tenants", false, func(b *impl.Box) { b.Tenants, b.Binds = []impl.Tenant{}, nil }},
		{"one tenant", true, func(b *impl.Box) { b.Tenants, b.Binds = b.Tenants[:1], b.Binds[:2] }},
		{"one tenant, but Binds of two", false, func(b *impl.Box) { b.Tenants = b.Tenants[:1] }},
		{"three tenants", true, func(b *impl.Box) { b.Tenants = append(b.Tenants, someTenant(2)) }},
	}
	for _, many := range []int{4, 5, 256, impl.MaxList, impl.MaxList + 1} {
		out = append(out, boxEdge{"too many tenants", false, func(b *impl.Box) {
			b.Tenants = slices.Repeat([]impl.Tenant{someTenant(0)}, many)
		}})
	}
	for at := range mostTenants {
		for _, now := range []int64{0, 19, 21, mostStep} {
			out = append(out, boxEdge{"tenants of unlike Now", false, func(b *impl.Box) {
				b.Tenants = append(b.Tenants, someTenant(2))
				b.Tenants[at].Inst.Now = now
			}})
		}
	}
	for _, now := range edgeSteps {
		out = append(out, boxEdge{"all at one Now", true, func(b *impl.Box) { *b = atNow(*b, now) }})
	}
	for _, now := range wrongSteps {
		out = append(out, boxEdge{"all at one wrong Now", false, func(b *impl.Box) { *b = atNow(*b, now) }})
	}
	return out
}

// allBoxes are of all edges, of the right ones or the others.
func allBoxes(right bool) []impl.Box {
	var out []impl.Box
	for _, x := range boxEdges() {
		if x.right == right {
			out = append(out, with(someBox(2), x.put))
		}
	}
	for _, x := range tenantEdges() {
		for at := range 2 {
			if x.right == right {
				out = append(out, withTenant(someBox(2), at, func(t *impl.Tenant) {
					x.put(t)
					if right {
						t.Inst.Now = 20
					}
				}))
			}
		}
	}
	return out
}

func TestBoxRight(t *testing.T) {
	for _, x := range boxEdges() {
		b := with(someBox(2), x.put)
		if got := impl.BoxRight(b); got != x.right || got != plainBox(b) {
			t.Errorf("%s: BoxRight(%+v): got %v", x.what, b, got)
		}
	}
	for _, right := range []bool{true, false} {
		for _, b := range allBoxes(right) {
			if got := impl.BoxRight(b); got != right || got != plainBox(b) {
				t.Errorf("BoxRight(%+v): got %v", b, got)
			}
		}
	}
	for many := 1; many <= mostTenants; many++ {
		if !impl.BoxRight(someBox(many)) {
			t.Errorf("BoxRight of %d tenants: got false", many)
		}
	}
	if impl.BoxRight(impl.Box{}) {
		t.Errorf("BoxRight of the zero one: got true")
	}
	if !impl.BoxRight(impl.Box{Tenants: []impl.Tenant{{Key: "k", Quota: 1}}, Binds: []impl.Bind{}, Leaks: []impl.Leak{}}) {
		t.Errorf("BoxRight of empty lists: got false")
	}
}

// TestBindRightByItsTenant: the Ifaces that count are those of the Bind's own tenant.
func TestBindRightByItsTenant(t *testing.T) {
	for many := range mostIfaces + 1 {
		for tenant := range mostTenants {
			b := withTenant(someBox(3), tenant, func(t *impl.Tenant) { t.Inst = someInst(many) })
			for of := range mostTenants {
				for iface := range int64(4) {
					b.Binds = []impl.Bind{{Vlan: 1, Tenant: int64(of), Iface: iface}}
					want := of == tenant && iface < int64(many) || of != tenant && iface < 2
					if got := impl.BoxRight(b); got != want {
						t.Errorf("%d Ifaces of %d, a Bind of %d and %d: got %v", many, tenant, of, iface, got)
					}
				}
			}
		}
	}
}

func TestBindOf(t *testing.T) {
	for many := range mostBinds + 1 {
		b := with(someBox(2), func(b *impl.Box) { b.Binds = someBinds(many) })
		for port := int64(-1); port < 5; port++ {
			for vlan := int64(-1); vlan < 12; vlan++ {
				var want impl.Bind
				for _, x := range someBinds(many) {
					if x.Port == port && x.Vlan == vlan {
						want = x
					}
				}
				if got := impl.BindOf(b, port, vlan); got != want {
					t.Errorf("BindOf %d and %d of %d: got %+v, want %+v", port, vlan, many, got, want)
				}
			}
		}
		for _, n := range append(wrongPorts, wrongVlans...) {
			if got := impl.BindOf(b, n, 1); got != (impl.Bind{}) && n != 0 {
				t.Errorf("BindOf the Port %d: got %+v", n, got)
			}
			if got := impl.BindOf(b, 0, n); got != (impl.Bind{}) {
				t.Errorf("BindOf the Vlan %d: got %+v", n, got)
			}
		}
	}
	one := with(someBox(2), func(b *impl.Box) {
		b.Binds = []impl.Bind{{Port: 0, Vlan: 4094, Tenant: 1}, {Port: 3, Vlan: 1, Iface: 1}, {Port: 3, Vlan: 4094, Tenant: 1, Iface: 1}}
	})
	for _, x := range one.Binds {
		if got := impl.BindOf(one, x.Port, x.Vlan); got != x {
			t.Errorf("BindOf(%+v): got %+v", x, got)
		}
	}
	if got := impl.BindOf(one, 0, 1); got != (impl.Bind{}) {
		t.Errorf("BindOf another pair of the same: got %+v", got)
	}
}

// TestBoxesThatAreNotRight: no call takes one, and that is told ahead of a tenant, an Iface and a Bind that are not there.
func TestBoxesThatAreNotRight(t *testing.T) {
	good := told{vlan: 10, src: by0, rip: someRip(2), key: "red", seq: 9}.frame()
	long := strings.Repeat("x", impl.MaxBytes)
	for _, b := range allBoxes(false) {
		for _, frame := range []string{good, "", "x", long} {
			for _, port := range []int64{0, 1, -1, 4} {
				holdBox(t, "BoxIn", impl.BoxIn(b, port, frame), noBox(impl.ErrForm))
			}
		}
		holdBox(t, "a frame of one more", impl.BoxIn(b, 0, long+"x"), noBox(impl.ErrSize))
		holdBox(t, "BoxTick", impl.BoxTick(b), noBox(impl.ErrForm))
		for _, vlan := range []int64{0, 1, 10, 21} {
			if got := impl.BindOf(b, 0, vlan); got != (impl.Bind{}) {
				t.Errorf("BindOf(%+v): got %+v", b, got)
			}
		}
		for _, tenant := range []int64{-1, 0, 1, 2, 3, math.MaxInt64} {
			holdBox(t, "Drain", impl.Drain(b, tenant), noBox(impl.ErrForm))
			if got := impl.Observe(b, tenant); got != "" {
				t.Errorf("Observe(%+v, %d): got %x", b, tenant, got)
			}
			for _, iface := range []int64{-1, 0, 1, 2, 3} {
				for _, yes := range []bool{true, false} {
					holdBox(t, "LinkSet", impl.LinkSet(b, tenant, iface, yes), noBox(impl.ErrForm))
					if got := impl.Wrap(b, tenant, iface, yes); got != "" {
						t.Errorf("Wrap(%+v, %d, %d): got %x", b, tenant, iface, got)
					}
				}
			}
		}
	}
}

// TestBoxesThatAreRight: of all edges all calls tell what the plain ones do.
func TestBoxesThatAreRight(t *testing.T) {
	for i, b := range allBoxes(true) {
		frame := told{vlan: 11, src: by1, rip: someRip(2), key: b.Tenants[0].Key, seq: 500}.frame()
		holdBoxes(t, "an edge", b, 0, frame, int64(i%2), int64(i/2%2))
	}
}

// TestBoxNone: tenants and Ifaces that are not there.
func TestBoxNone(t *testing.T) {
	for many := 1; many <= mostTenants; many++ {
		b := someBox(many)
		for _, tenant := range append(wrongParties, int64(many)) {
			holdBox(t, "Drain", impl.Drain(b, tenant), noBox(impl.ErrNone))
			if got := impl.Observe(b, tenant); got != "" {
				t.Errorf("Observe of %d: got %x", tenant, got)
			}
			for _, iface := range []int64{0, 1, 2, -1} {
				for _, yes := range []bool{true, false} {
					holdBox(t, "LinkSet", impl.LinkSet(b, tenant, iface, yes), noBox(impl.ErrNone))
					if got := impl.Wrap(b, tenant, iface, yes); got != "" {
						t.Errorf("Wrap of %d: got %x", tenant, got)
					}
				}
			}
		}
		for tenant := range many {
			for _, iface := range append(wrongPlaces, 2) {
				for _, yes := range []bool{true, false} {
					holdBox(t, "LinkSet", impl.LinkSet(b, int64(tenant), iface, yes), noBox(impl.ErrNone))
					if got := impl.Wrap(b, int64(tenant), iface, yes); got != "" {
						t.Errorf("Wrap of %d and %d: got %x", tenant, iface, got)
					}
				}
			}
		}
	}
	// The Ifaces that count are those of the tenant itself.
	b := withTenant(someBox(2), 1, func(t *impl.Tenant) { t.Inst = someInst(3) })
	holdBox(t, "two of 0", impl.LinkSet(b, 0, 2, false), noBox(impl.ErrNone))
	holdBox(t, "three of 1", impl.LinkSet(b, 1, 2, false), plainLink(b, 1, 2, false))
}

func TestWrapOneByOne(t *testing.T) {
	b := withTenant(someBox(2), 1, func(t *impl.Tenant) { t.Inst = mixedInst() })
	n := netsOfAll()
	metrics := [][]int64{{16, 1, 16, 5, 16, 16, 15, 6}, {1, 16, 4, 16, 16, 16, 15, 6}}
	for iface, addr := range []int64{0x0A000001, 0x0A000101} {
		var all, changes []impl.Entry
		for i, tag := range []int64{0, 0, 7, 6, 5, 4, 1000, 65535} {
			e := impl.Entry{Net: n[i], Metric: metrics[iface][i], Tag: tag}
			all = append(all, e)
			if i == 0 || i == 3 || i == 4 || i == 6 {
				changes = append(changes, e)
			}
		}
		for _, now := range []int64{1, 2, 3, 20, mostStep - 1, mostStep} {
			for yes, said := range map[bool][]impl.Entry{true: all, false: changes} {
				got := impl.Wrap(atNow(b, now), 1, int64(iface), yes)
				s := told{vlan: 20 + int64(iface), src: addr, rip: tell(said...), key: "blue", seq: now}
				if got != s.frame() {
					t.Errorf("Wrap of %d at %d, %v:\n got %x\nwant %x", iface, now, yes, got, s.frame())
				}
				f := impl.FrameRead(got).Frame
				d := impl.DgramRead(f.Data).Dgram
				opened := impl.RipOpen(d.Data, "blue", now-1)
				if f.Vlan != s.vlan || d != s.dgram() || opened.Code != impl.OK || opened.Seq != now || !sameRip(opened.Rip, s.rip) {
					t.Errorf("Wrap of %d at %d, %v: read back: %+v, %+v, %+v", iface, now, yes, f, d, opened)
				}
			}
		}
	}
	if got := impl.Wrap(b, 1, 0, true); len(got) != 18+28+4+8*20+8+16 {
		t.Errorf("Wrap: got %d bytes", len(got))
	}
}

// TestWrapNothing: why there is nothing to send.
func TestWrapNothing(t *testing.T) {
	b := someBox(2)
	quiet := withTenant(b, 0, func(t *impl.Tenant) { t.Inst.Rib = plainQuiet(t.Inst.Rib) })
	bare := withTenant(b, 0, func(t *impl.Tenant) { t.Inst.Rib = impl.Rib{} })
	down := withTenant(b, 0, func(t *impl.Tenant) { t.Inst = withDown(t.Inst, 0) })
	unbound := with(b, func(b *impl.Box) { b.Binds = b.Binds[1:] })
	others := with(b, func(b *impl.Box) { b.Binds = []impl.Bind{{Vlan: 9, Iface: 1}, {Vlan: 10, Tenant: 1}} })
	for _, x := range []struct {
		what string
		b    impl.Box
		all  bool
		want bool
	}{
		{"all", b, true, true},
		{"what is Changed", b, false, true},
		{"all, at Now 0", atNow(b, 0), true, false},
		{"what is Changed, at Now 0", atNow(b, 0), false, false},
		{"all, at Now 1", atNow(b, 1), true, true},
		{"what is Changed, at Now 1", atNow(b, 1), false, true},
		{"all, at the last Now", atNow(b, mostStep), true, true},
		{"all, nothing Changed", quiet, true, true},
		{"nothing Changed", quiet, false, false},
		{"all of no Routes", bare, true, false},
		{"no Routes", bare, false, false},
		{"all, down", down, true, false},
		{"down", down, false, false},
		{"all, without a Bind", unbound, true, false},
		{"without a Bind", unbound, false, false},
		{"without any Bind", with(b, func(b *impl.Box) { b.Binds = nil }), true, false},
		{"Binds of another Iface, and of another tenant", others, true, false},
	} {
		got := impl.Wrap(x.b, 0, 0, x.all)
		if (got != "") != x.want || got != plainWrap(x.b, 0, 0, x.all) {
			t.Errorf("%s: got %x", x.what, got)
		}
	}
}

// TestWrapByTheFirstBind: an Iface that has more than one sends on the first one's Vlan.
func TestWrapByTheFirstBind(t *testing.T) {
	b := with(someBox(2), func(b *impl.Box) {
		b.Binds = []impl.Bind{{Port: 0, Vlan: 500, Iface: 1}, {Port: 0, Vlan: 501, Tenant: 1}, {Port: 1, Vlan: 77}, {Port: 1, Vlan: 78}, {Port: 2, Vlan: 3}, {Port: 3, Vlan: 1, Tenant: 1}}
	})
	for _, x := range []struct{ tenant, iface, vlan int64 }{{0, 0, 77}, {0, 1, 500}, {1, 0, 501}, {1, 1, 0}} {
		got := impl.Wrap(b, x.tenant, x.iface, true)
		if vlan := impl.FrameRead(got).Frame.Vlan; vlan != x.vlan || got != plainWrap(b, x.tenant, x.iface, true) {
			t.Errorf("Wrap(%d, %d): got the Vlan %d, want %d", x.tenant, x.iface, vlan, x.vlan)
		}
	}
}

// someTold is taken by the Iface 0 of the tenant 0 of someBox.
func someTold() told {
	return told{vlan: 10, src: by0, rip: tell(impl.Entry{Net: impl.Net{Addr: 0x0B000000, Len: 8}, Metric: 3, Tag: 5}), key: "red", seq: 21}
}

// The three things that may come of a frame.
const (
	isLost = iota
	isDropped
	isTaken
)

// holdIn asks for what came of a frame at the Port 0, by the tenant; what is taken has to be in the table.
func holdIn(t *testing.T, what string, b impl.Box, frame string, tenant int, came int) {
	t.Helper()
	got := impl.BoxIn(b, 0, frame)
	holdBox(t, what, got, plainIn(b, 0, frame))
	if got.Code != impl.OK {
		t.Errorf("%s: got the code %d", what, got.Code)
		return
	}
	switch came {
	case isLost:
		holdBox(t, what+": lost", got, boxOf(with(b, func(b *impl.Box) { b.Lost++ })))
	case isDropped:
		holdBox(t, what+": dropped", got, boxOf(withTenant(b, tenant, func(t *impl.Tenant) { t.Drops++ })))
	default:
		same := withTenant(b, tenant, func(t *impl.Tenant) {
			t.Inst.Rib, t.Heard = got.Box.Tenants[tenant].Inst.Rib, got.Box.Tenants[tenant].Heard
		})
		if !sameBox(got.Box, same) || slices.Equal(got.Box.Tenants[tenant].Heard, b.Tenants[tenant].Heard) {
			t.Errorf("%s: taken: got %+v", what, got)
		}
	}
}

func TestBoxInTaken(t *testing.T) {
	b := someBox(2)
	s := someTold()
	want := withTenant(b, 0, func(t *impl.Tenant) {
		t.Inst.Rib = plainWith(t.Inst.Rib, impl.Route{Net: impl.Net{Addr: 0x0B000000, Len: 8}, Metric: 4, Next: by0, Iface: 0, Tag: 5, Until: 26, Changed: true})
		t.Heard[0].Seq = 21
	})
	holdBox(t, "an ordinary one", impl.BoxIn(b, 0, s.frame()), boxOf(want))
	s.vlan, s.src = 21, by1
	s.key = "blue"
	want = withTenant(b, 1, func(t *impl.Tenant) {
		t.Inst.Rib = plainWith(t.Inst.Rib, impl.Route{Net: impl.Net{Addr: 0x0B000000, Len: 8}, Metric: 5, Next: by1, Iface: 1, Tag: 5, Until: 26, Changed: true})
		t.Heard[1].Seq = 21
	})
	holdBox(t, "by another Iface of another tenant", impl.BoxIn(b, 0, s.frame()), boxOf(want))
	b.Binds[3].Port = 3
	holdBox(t, "at another Port", impl.BoxIn(b, 3, s.frame()), boxOf(with(want, func(w *impl.Box) { w.Binds = b.Binds })))
	holdBox(t, "at the Port of before", impl.BoxIn(b, 0, s.frame()), boxOf(with(b, func(b *impl.Box) { b.Lost++ })))
}

// TestBoxInHeard: where who was not heard stands in Heard, and what becomes of who was.
func TestBoxInHeard(t *testing.T) {
	s := someTold()
	s.seq = 7
	seen := func(from int64, seq int64) impl.Seen { return impl.Seen{From: from, Seq: seq} }
	for _, x := range []struct {
		what string
		old  []impl.Seen
		want []impl.Seen
	}{
		{"the first one", nil, []impl.Seen{seen(by0, 7)}},
		{"below another", []impl.Seen{seen(by1, 900)}, []impl.Seen{seen(by0, 7), seen(by1, 900)}},
		{"above another", []impl.Seen{seen(3, 900)}, []impl.Seen{seen(3, 900), seen(by0, 7)}},
		{"between two", []impl.Seen{seen(0, 900), seen(topAddr, 901)}, []impl.Seen{seen(0, 900), seen(by0, 7), seen(topAddr, 901)}},
		{"again", []impl.Seen{seen(by0-1, 900), seen(by0, 6), seen(by0+1, 901)}, []impl.Seen{seen(by0-1, 900), seen(by0, 7), seen(by0+1, 901)}},
		{"again, long behind it", []impl.Seen{seen(by0, 0)}, []impl.Seen{seen(by0, 7)}},
		{"the seq of before", []impl.Seen{seen(by0, 7)}, nil},
		{"a seq from before that", []impl.Seen{seen(by0, 8)}, nil},
		{"the last seq there is", []impl.Seen{seen(by0, impl.MaxTime)}, nil},
		{"the eighth", someHeard(7), append([]impl.Seen{seen(by0, 7)}, someHeard(7)...)},
		{"the ninth", someHeard(8), nil},
		{"one of eight", append([]impl.Seen{seen(by0, 6)}, someHeard(7)...), append([]impl.Seen{seen(by0, 7)}, someHeard(7)...)},
		{"one of eight, of before", append([]impl.Seen{seen(by0, 7)}, someHeard(7)...), nil},
	} {
		b := withTenant(someBox(2), 0, func(t *impl.Tenant) { t.Heard = x.old })
		got := impl.BoxIn(b, 0, s.frame())
		holdBox(t, x.what, got, plainIn(b, 0, s.frame()))
		if x.want == nil {
			holdIn(t, x.what, b, s.frame(), 0, isDropped)
		} else if !slices.Equal(got.Box.Tenants[0].Heard, x.want) {
			t.Errorf("%s: got %+v, want %+v", x.what, got.Box.Tenants[0].Heard, x.want)
		}
	}
	for below := range mostHeard {
		b := withTenant(someBox(2), 0, func(t *impl.Tenant) {
			t.Heard = nil
			for i := range int64(mostHeard) {
				t.Heard = append(t.Heard, seen(by0-int64(below)+i, i))
			}
			t.Inst.Ifaces[0] = impl.Iface{Addr: 0x0A000080, Net: impl.Net{Addr: 0x0A000000, Len: 8}, Cost: 1, Up: true}
		})
		holdIn(t, "one of eight", withTenant(b, 0, func(t *impl.Tenant) { t.Heard[below].Seq = 6 }), s.frame(), 0, isTaken)
		holdIn(t, "one of eight, of before", withTenant(b, 0, func(t *impl.Tenant) { t.Heard[below].Seq = 7 }), s.frame(), 0, isDropped)
	}
}

// TestBoxInDropped has each thing that a tenant does not take, one by one.
func TestBoxInDropped(t *testing.T) {
	b := someBox(2)
	turn := func(put func(*told)) string {
		s := someTold()
		put(&s)
		return s.frame()
	}
	dgram := func(put func(*impl.Dgram)) string {
		d := someTold().dgram()
		put(&d)
		return someTold().framed(d)
	}
	data := func(text string) string {
		return plainFrame(impl.Frame{Vlan: 10, Data: text})
	}
	whole := plainDgram(someTold().dgram())
	for _, x := range []struct {
		what  string
		frame string
		came  int
	}{
		{"as it should be", turn(func(s *told) {}), isTaken},
		{"no Data", data(""), isDropped},
		{"no datagram", data("x"), isDropped},
		{"bytes 0", data(strings.Repeat("\x00", 28)), isDropped},
		{"the longest Data", data(strings.Repeat("x", 1000)), isDropped},
		{"a byte short", data(whole[:len(whole)-1]), isDropped},
		{"a byte more", data(whole + "\x00"), isDropped},
		{"another sum of the head", data(putWord(whole, 10, wordAt(whole, 10)^1)), isDropped},
		{"another sum", data(putWord(whole, 26, wordAt(whole, 26)^1)), isDropped},
		{"no sum", data(putWord(whole, 26, 0)), isDropped},
		{"another mark", data(withSums(turned(whole, 9, 1))), isDropped},
		{"to the next one", dgram(func(d *impl.Dgram) { d.Dst = groupAddr + 1 }), isDropped},
		{"to the one of before", dgram(func(d *impl.Dgram) { d.Dst = groupAddr - 1 }), isDropped},
		{"to the Iface itself", dgram(func(d *impl.Dgram) { d.Dst = 0x0A000001 }), isDropped},
		{"to nobody", dgram(func(d *impl.Dgram) { d.Dst = 0 }), isDropped},
		{"from another port", dgram(func(d *impl.Dgram) { d.SrcPort = 521 }), isDropped},
		{"from the port 0", dgram(func(d *impl.Dgram) { d.SrcPort = 0 }), isDropped},
		{"to another port", dgram(func(d *impl.Dgram) { d.DstPort = 519 }), isDropped},
		{"to the port 0", dgram(func(d *impl.Dgram) { d.DstPort = 0 }), isDropped},
		{"Ttl 0", dgram(func(d *impl.Dgram) { d.Ttl = 0 }), isDropped},
		{"Ttl 2", dgram(func(d *impl.Dgram) { d.Ttl = 2 }), isDropped},
		{"Ttl 255", dgram(func(d *impl.Dgram) { d.Ttl = 255 }), isDropped},
		{"no Rip", dgram(func(d *impl.Dgram) { d.Data = "" }), isDropped},
		{"an unsigned Rip", dgram(func(d *impl.Dgram) { d.Data = plainRip(someRip(2)) }), isDropped},
		{"too much Data", dgram(func(d *impl.Dgram) { d.Data = strings.Repeat("x", 301) }), isDropped},
		{"a turned mac", dgram(func(d *impl.Dgram) { d.Data = turned(d.Data, len(d.Data)-1, 1) }), isDropped},
		{"a turned Rip", dgram(func(d *impl.Dgram) { d.Data = turned(d.Data, 20, 1) }), isDropped},
		{"a Key that is another one's", turn(func(s *told) { s.key = "blue" }), isDropped},
		{"no Key", turn(func(s *told) { s.key = "" }), isDropped},
		{"a Key that is longer", turn(func(s *told) { s.key = "redd" }), isDropped},
		{"a Key filled up", turn(func(s *told) { s.key = "red\x00" }), isTaken},
		{"the seq 0", turn(func(s *told) { s.seq = 0 }), isDropped},
		{"a seq of before", turn(func(s *told) { s.seq = 2 }), isDropped},
		{"the same seq", turn(func(s *told) { s.seq = 3 }), isDropped},
		{"the next seq", turn(func(s *told) { s.seq = 4 }), isTaken},
		{"the last seq", turn(func(s *told) { s.seq = impl.MaxTime }), isTaken},
		{"a seq too far", turn(func(s *told) { s.seq = impl.MaxTime + 1 }), isDropped},
		{"from the Iface itself", turn(func(s *told) { s.src = 0x0A000001 }), isDropped},
		{"from afar", turn(func(s *told) { s.src = 0x0B000001 }), isDropped},
		{"from near another Iface", turn(func(s *told) { s.src, s.seq = by1, 10 }), isDropped},
		{"from the next Net", turn(func(s *told) { s.src = 0x0A000100 }), isDropped},
		{"from nobody", turn(func(s *told) { s.src = 0 }), isDropped},
		{"from the first of the Net", turn(func(s *told) { s.src = 0x0A000000 }), isTaken},
		{"from the last of the Net", turn(func(s *told) { s.src = 0x0A0000FF }), isTaken},
		{"a CmAsk", turn(func(s *told) { s.rip.Cmd = impl.CmAsk }), isTaken},
		{"another Cmd", turn(func(s *told) { s.rip.Cmd = 3 }), isDropped},
		{"nothing told", turn(func(s *told) { s.rip = tell() }), isTaken},
		{"eight told", turn(func(s *told) { s.rip = someRip(8) }), isTaken},
		{"nine told", turn(func(s *told) { s.rip = someRip(9) }), isDropped},
		{"a wrong Entry", turn(func(s *told) { s.rip.Entries[0].Metric = 17 }), isDropped},
	} {
		holdIn(t, x.what, b, x.frame, 0, x.came)
	}
	holdIn(t, "to the other tenant, by its Key", b, turn(func(s *told) { s.vlan, s.key = 20, "blue" }), 1, isTaken)
	holdIn(t, "to the other tenant, by this one's", b, turn(func(s *told) { s.vlan = 20 }), 1, isDropped)
	holdIn(t, "down", withTenant(b, 0, func(t *impl.Tenant) { t.Inst = withDown(t.Inst, 0) }), someTold().frame(), 0, isDropped)
	holdIn(t, "another one down", withTenant(b, 0, func(t *impl.Tenant) { t.Inst = withDown(t.Inst, 1) }), someTold().frame(), 0, isTaken)
	wide := withTenant(b, 0, func(t *impl.Tenant) { t.Inst.Ifaces[0] = impl.Iface{Addr: 1, Net: impl.Net{}, Cost: 1, Up: true} })
	holdIn(t, "from nobody, though near", wide, turn(func(s *told) { s.src = 0 }), 0, isDropped)
	holdIn(t, "from anywhere", wide, turn(func(s *told) { s.src = topAddr }), 0, isTaken)
}

// TestBoxInLost has each thing that is nobody's.
func TestBoxInLost(t *testing.T) {
	b := someBox(2)
	good := someTold().frame()
	for _, x := range []struct {
		what  string
		frame string
	}{
		{"nothing", ""},
		{"a byte", "x"},
		{"a byte less than a frame", good[:17]},
		{"a byte in front", "\x00" + good},
		{"the first byte", turned(good, 0, 1)},
		{"the last byte ahead of the mark", turned(good, 11, 128)},
		{"the mark", turned(good, 12, 1)},
		{"the mark of what it carries", turned(good, 17, 1)},
		{"the Vlan 0", putWord(good, 14, 0)},
		{"the Vlan 4095", putWord(good, 14, 4095)},
		{"a Vlan of more bits", putWord(good, 14, 4096+10)},
		{"a Vlan without a Bind", putWord(good, 14, 12)},
		{"the last Vlan", putWord(good, 14, 4094)},
		{"a frame of 1001 bytes", good[:18] + strings.Repeat("x", 1001)},
		{"as long as may be", good + strings.Repeat("x", impl.MaxBytes-len(good))},
	} {
		holdIn(t, x.what, b, x.frame, 0, isLost)
	}
	for _, port := range append(wrongPorts, 1, 2, 3) {
		holdBox(t, "a Port without a Bind", impl.BoxIn(b, port, good), boxOf(with(b, func(b *impl.Box) { b.Lost++ })))
	}
	bare := with(b, func(b *impl.Box) { b.Binds = nil })
	holdIn(t, "no Binds", bare, good, 0, isLost)
	long := strings.Repeat("\x00", impl.MaxBytes+1)
	holdBox(t, "one byte too long", impl.BoxIn(b, 0, long), noBox(impl.ErrSize))
	holdBox(t, "far too long", impl.BoxIn(b, 7, good+strings.Repeat(long, 9)), noBox(impl.ErrSize))
	holdBox(t, "too long for no box", impl.BoxIn(impl.Box{}, 0, long), noBox(impl.ErrSize))
	holdBox(t, "no box", impl.BoxIn(impl.Box{}, 0, long[1:]), noBox(impl.ErrForm))
}

// TestBoxInCounts: what is counted stays a time.
func TestBoxInCounts(t *testing.T) {
	for _, n := range edgeTimes {
		b := with(someBox(2), func(b *impl.Box) { b.Lost, b.Tenants[1].Drops = n, n })
		want := min(n+1, impl.MaxTime)
		lost := impl.BoxIn(b, 0, "x")
		if lost.Code != impl.OK || lost.Box.Lost != want || lost.Box.Tenants[1].Drops != n {
			t.Errorf("Lost at %d: got %+v", n, lost)
		}
		dropped := impl.BoxIn(b, 0, plainFrame(impl.Frame{Vlan: 20}))
		if dropped.Code != impl.OK || dropped.Box.Tenants[1].Drops != want || dropped.Box.Lost != n || dropped.Box.Tenants[0].Drops != 7 {
			t.Errorf("Drops at %d: got %+v", n, dropped)
		}
		taken := impl.BoxIn(b, 0, someTold().frame())
		if taken.Box.Lost != n || taken.Box.Tenants[1].Drops != n || taken.Box.Tenants[0].Drops != 7 {
			t.Errorf("taken at %d: got %+v", n, taken)
		}
	}
}

// TestBoxInAFullTable: what a table has no room for is heard all the same.
func TestBoxInAFullTable(t *testing.T) {
	b := withTenant(someBox(1), 0, func(t *impl.Tenant) { t.Inst.Rib = someRib(8) })
	got := impl.BoxIn(b, 0, someTold().frame())
	holdBox(t, "full", got, boxOf(withTenant(b, 0, func(t *impl.Tenant) { t.Heard[0].Seq = 21 })))
	ask := someTold()
	ask.rip.Cmd = impl.CmAsk
	holdBox(t, "asked", impl.BoxIn(b, 0, ask.frame()), got)
}

func TestBoxTickOneByOne(t *testing.T) {
	n := impl.Net{Addr: 0x0A000000, Len: 24}
	m := impl.Net{Addr: 0x0A000100, Len: 24}
	far := impl.Net{Addr: 0x0B000000, Len: 8}
	route := impl.Route{Net: far, Metric: 3, Next: by0, Iface: 0, Tag: 5, Until: 24, Changed: true}
	own := func(n impl.Net, iface int64, changed bool) impl.Route {
		return impl.Route{Net: n, Metric: 1, Iface: iface, Changed: changed}
	}
	b := impl.Box{
		Tenants: []impl.Tenant{{Key: "red", Quota: 4, Ring: []impl.Sent{{Iface: 2, Bytes: "old"}}, Drops: 3}},
		Binds:   []impl.Bind{{Port: 1, Vlan: 10}, {Port: 1, Vlan: 11, Iface: 1}},
		Lost:    8,
	}
	b.Tenants[0].Inst = impl.Inst{Ifaces: allUp(someIfaces(2)), Now: 19, Rib: impl.Rib{Routes: []impl.Route{own(n, 0, false), own(m, 1, false), route}}}
	sent := func(vlan, src, now int64, l ...impl.Entry) string {
		return told{vlan: vlan, src: src, rip: tell(l...), key: "red", seq: now}.frame()
	}
	entry := func(n impl.Net, metric, tag int64) impl.Entry { return impl.Entry{Net: n, Metric: metric, Tag: tag} }
	want := with(b, func(b *impl.Box) {
		x := &b.Tenants[0]
		x.Inst.Now = 20
		x.Inst.Rib.Routes[2].Changed = false
		x.Ring = append(x.Ring, impl.Sent{Iface: 0, Bytes: sent(10, 0x0A000001, 20, entry(far, 16, 5))}, impl.Sent{Iface: 1, Bytes: sent(11, 0x0A000101, 20, entry(far, 3, 5))})
	})
	first := impl.BoxTick(b)
	holdBox(t, "what is Changed", first, boxOf(want))
	want = with(want, func(b *impl.Box) {
		x := &b.Tenants[0]
		x.Inst.Now = 21
		x.Ring = append(x.Ring, impl.Sent{Iface: 0, Bytes: sent(10, 0x0A000001, 21, entry(n, 16, 0), entry(m, 1, 0), entry(far, 16, 5))})
		x.Drops = 4
	})
	second := impl.BoxTick(first.Box)
	holdBox(t, "all, and room for one", second, boxOf(want))
	want = with(want, func(b *impl.Box) { b.Tenants[0].Inst.Now = 22 })
	third := impl.BoxTick(second.Box)
	holdBox(t, "nothing Changed, nothing dropped", third, boxOf(want))
	want = with(want, func(b *impl.Box) { b.Tenants[0].Inst.Now = 23 })
	fourth := impl.BoxTick(third.Box)
	holdBox(t, "nothing once more", fourth, boxOf(want))
	want = with(want, func(b *impl.Box) {
		x := &b.Tenants[0]
		x.Inst.Now = 24
		x.Inst.Rib.Routes[2] = impl.Route{Net: far, Metric: 16, Next: by0, Iface: 0, Tag: 5, Bin: 28}
		x.Drops = 6
	})
	holdBox(t, "aged, and no room", impl.BoxTick(fourth.Box), boxOf(want))
	want = with(want, func(b *impl.Box) {
		x := &b.Tenants[0]
		x.Drops = 4
		x.Ring = []impl.Sent{{Iface: 0, Bytes: sent(10, 0x0A000001, 24, entry(n, 16, 0), entry(m, 1, 0), entry(far, 16, 5))}, {Iface: 1, Bytes: sent(11, 0x0A000101, 24, entry(n, 1, 0), entry(m, 16, 0), entry(far, 16, 5))}}
	})
	holdBox(t, "aged, and drained", impl.BoxTick(impl.Drain(fourth.Box, 0).Box), boxOf(want))
}

// TestBoxTickMultiples: all is told at each third time alone.
func TestBoxTickMultiples(t *testing.T) {
	b := someBox(3)
	for i := range b.Tenants {
		b.Tenants[i].Inst.Rib = plainQuiet(impl.Rib{Routes: []impl.Route{ownRoute(netsOfAll()[4])}})
	}
	for _, now := range []int64{0, 1, 2, 3, 4, 5, 99, 100, 101, mostStep - 4, mostStep - 3, mostStep - 2, mostStep - 1} {
		got := impl.BoxTick(atNow(b, now))
		holdBox(t, "tick", got, plainBoxTick(atNow(b, now)))
		for i, x := range got.Box.Tenants {
			if many := len(x.Ring) - 2; (many == 2) != ((now+1)%3 == 0) || many != 2 && many != 0 {
				t.Errorf("behind %d: the tenant %d sent %d", now, i, many)
			}
		}
	}
}

func TestBoxTickLimits(t *testing.T) {
	for many := 1; many <= mostTenants; many++ {
		b := atNow(someBox(many), mostStep-1)
		got := impl.BoxTick(b)
		holdBox(t, "one below the last", got, plainBoxTick(b))
		if got.Code != impl.OK || got.Box.Tenants[0].Inst.Now != mostStep {
			t.Errorf("one below the last: got %+v", got)
		}
		holdBox(t, "the last", impl.BoxTick(got.Box), noBox(impl.ErrFull))
		holdBox(t, "the last", impl.BoxTick(atNow(b, mostStep)), noBox(impl.ErrFull))
		wrong := with(atNow(b, mostStep), func(b *impl.Box) { b.Lost = -1 })
		holdBox(t, "the last, not right", impl.BoxTick(wrong), noBox(impl.ErrForm))
		last := got.Box
		holdBox(t, "at the last time", impl.BoxIn(last, 0, someTold().frame()), plainIn(last, 0, someTold().frame()))
		if got := impl.Wrap(last, 0, 0, true); got == "" || got != plainWrap(last, 0, 0, true) {
			t.Errorf("at the last time: got %x", got)
		}
	}
	first := atNow(someBox(2), 0)
	got := impl.BoxTick(first)
	holdBox(t, "the first", got, plainBoxTick(first))
	if len(got.Box.Tenants[0].Ring) != 4 {
		t.Errorf("the first: got %+v", got)
	}
}

// TestBoxTickRing: with each Quota and each Ring, of one up to three Ifaces, what has no room is a drop.
func TestBoxTickRing(t *testing.T) {
	for ifaces := 1; ifaces <= mostIfaces; ifaces++ {
		for quota := int64(1); quota <= mostQuota; quota++ {
			for size := range int(quota) + 1 {
				for _, drops := range edgeTimes {
					b := withTenant(someBox(2), 0, func(t *impl.Tenant) {
						t.Inst = someInst(ifaces)
						t.Quota, t.Ring, t.Drops = quota, someRing(size), drops
					})
					b.Binds = []impl.Bind{{Vlan: 5}, {Vlan: 6, Iface: 1}, {Vlan: 7, Iface: 2}}[:ifaces]
					got := impl.BoxTick(b)
					holdBox(t, "tick", got, plainBoxTick(b))
					room := int(quota) - size
					x := got.Box.Tenants[0]
					if len(x.Ring) != size+min(room, ifaces) || x.Drops != min(drops+int64(max(0, ifaces-room)), impl.MaxTime) {
						t.Errorf("%d Ifaces, a Quota of %d and %d in the Ring: got %d and %d", ifaces, quota, size, len(x.Ring), x.Drops)
					}
					for i, s := range x.Ring[size:] {
						if s.Iface != int64(i) || impl.FrameRead(s.Bytes).Frame.Vlan != 5+int64(i) {
							t.Errorf("%d Ifaces, a Quota of %d and %d in the Ring: at %d there is %+v", ifaces, quota, size, i, s)
						}
					}
				}
			}
		}
	}
}

// TestBoxTickDown: nothing is sent, and nothing dropped, by an Iface that is down, or of no Bind.
func TestBoxTickDown(t *testing.T) {
	for at := range 2 {
		for _, quota := range []int64{2, 3, 4} {
			b := withTenant(someBox(2), 1, func(t *impl.Tenant) { t.Inst, t.Quota = withDown(t.Inst, at), quota })
			unbound := with(someBox(2), func(b *impl.Box) {
				b.Tenants[1].Quota = quota
				b.Binds = slices.Delete(b.Binds, 2+at, 3+at)
			})
			for what, b := range map[string]impl.Box{"down": b, "of no Bind": unbound} {
				got := impl.BoxTick(b)
				holdBox(t, what, got, plainBoxTick(b))
				x := got.Box.Tenants[1]
				for _, s := range x.Ring[2:] {
					if s.Iface == int64(at) {
						t.Errorf("%s: got %+v", what, s)
					}
				}
				if want := 8 + max(0, 3-quota); x.Drops != want {
					t.Errorf("%s: got %d Drops, want %d", what, x.Drops, want)
				}
			}
		}
	}
	b := withTenant(someBox(1), 0, func(t *impl.Tenant) { t.Inst = impl.Inst{Now: 20} })
	b.Binds = nil
	holdBox(t, "no Ifaces", impl.BoxTick(b), boxOf(atNow(b, 21)))
}

// TestBoxTickRules: rules are followed behind all Steps, Wraps and Settles, at the new Now.
func TestBoxTickRules(t *testing.T) {
	n := netsOfAll()
	live := func(n impl.Net, until int64) impl.Route {
		return impl.Route{Net: n, Metric: 3, Next: by0, Iface: 0, Until: until}
	}
	b := someBox(3)
	for i := range b.Tenants {
		b.Tenants[i].Inst.Rib, b.Tenants[i].Ring = impl.Rib{}, nil
	}
	b.Tenants[0].Inst.Rib = impl.Rib{Routes: []impl.Route{live(n[2], 21), live(n[3], 22), ownRoute(n[4])}}
	b.Leaks = []impl.Leak{{From: 0, To: 1, Add: 2, Tag: 1000}, {From: 1, To: 2, Add: 1, Tag: 1001}, {From: 0, To: 2, Within: n[4], Add: 5, Tag: 1002}}
	got := func(n impl.Net, metric, tag int64) impl.Route {
		return impl.Route{Net: n, Metric: metric, Next: 1, Iface: 3, Tag: tag, Until: 27, Changed: true}
	}
	first := impl.BoxTick(b)
	holdBox(t, "tick", first, plainBoxTick(b))
	one, two := first.Box.Tenants[1], first.Box.Tenants[2]
	if !slices.Equal(one.Inst.Rib.Routes, []impl.Route{got(n[3], 5, 1000), got(n[4], 3, 1000)}) {
		t.Errorf("what has just aged goes no further: got %+v", one.Inst.Rib)
	}
	if !slices.Equal(two.Inst.Rib.Routes, []impl.Route{got(n[4], 6, 1002)}) {
		t.Errorf("what was got by a rule goes no further: got %+v", two.Inst.Rib)
	}
	if len(one.Ring) != 0 || len(two.Ring) != 0 {
		t.Errorf("what is got is not yet told: got %+v, %+v", one.Ring, two.Ring)
	}
	// 22 is no multiple of 3: what rules changed is told by then, as it is Changed.
	second := impl.BoxTick(first.Box)
	holdBox(t, "and again", second, plainBoxTick(first.Box))
	ring := second.Box.Tenants[2].Ring
	if len(ring) != 2 || ring[0].Bytes != (told{vlan: 30, src: 0x0A000001, rip: tell(impl.Entry{Net: n[4], Metric: 6, Tag: 1002}), key: "green", seq: 22}).frame() {
		t.Errorf("what was got is told: got %+v", ring)
	}
	if x := impl.RibFind(second.Box.Tenants[1].Inst.Rib, n[4]); x.Until != 28 || x.Changed {
		t.Errorf("and learned again: got %+v", x)
	}
	x, gone := impl.RibFind(second.Box.Tenants[0].Inst.Rib, n[3]), impl.RibFind(second.Box.Tenants[1].Inst.Rib, n[3])
	if x.Metric != 16 || gone.Metric != 5 || gone.Until != 27 {
		t.Errorf("what is out of reach is not told by rules: got %+v and %+v", x, gone)
	}
}

func TestDrain(t *testing.T) {
	for quota := int64(1); quota <= mostQuota; quota++ {
		for size := range int(quota) + 1 {
			for at := range mostTenants {
				b := withTenant(someBox(3), at, func(t *impl.Tenant) { t.Quota, t.Ring = quota, someRing(size) })
				got := impl.Drain(b, int64(at))
				empty := withTenant(b, at, func(t *impl.Tenant) { t.Ring = nil })
				holdBox(t, "drained", got, impl.BoxOut{Box: empty, Sent: someRing(size)})
				holdBox(t, "drained again", impl.Drain(got.Box, int64(at)), boxOf(empty))
			}
		}
	}
}

func TestLinkSet(t *testing.T) {
	b := someBox(2)
	for at := range 2 {
		for iface := range int64(2) {
			tenant := int64(at)
			down := withTenant(b, at, func(t *impl.Tenant) { t.Inst = withDown(t.Inst, int(iface)) })
			full := withTenant(down, at, func(t *impl.Tenant) { t.Inst.Rib = someRib(8) })
			holdBox(t, "up already", impl.LinkSet(b, tenant, iface, true), noBox(impl.ErrState))
			holdBox(t, "down already", impl.LinkSet(down, tenant, iface, false), noBox(impl.ErrState))
			holdBox(t, "up in a full table", impl.LinkSet(full, tenant, iface, true), noBox(impl.ErrFull))
			holdBox(t, "down in a full table", impl.LinkSet(full, tenant, 1-iface, false), plainLink(full, tenant, 1-iface, false))
			lost := withTenant(down, at, func(t *impl.Tenant) { t.Inst.Rib = plainLose(t.Inst.Rib, iface, 20).Rib })
			holdBox(t, "down", impl.LinkSet(b, tenant, iface, false), boxOf(lost))
			back := withTenant(b, at, func(t *impl.Tenant) {
				t.Inst.Rib = plainWith(t.Inst.Rib, impl.Route{Net: t.Inst.Ifaces[iface].Net, Metric: 1, Iface: iface, Changed: true})
			})
			holdBox(t, "up", impl.LinkSet(down, tenant, iface, true), boxOf(back))
			other := withTenant(b, 1-at, func(t *impl.Tenant) { t.Inst = withDown(t.Inst, int(iface)) })
			holdBox(t, "that of another tenant is down", impl.LinkSet(other, tenant, iface, true), noBox(impl.ErrState))
		}
	}
}

func TestObserveOneByOne(t *testing.T) {
	b := impl.Box{Tenants: []impl.Tenant{
		{Key: "k", Quota: 1, Inst: impl.Inst{Now: 3}, Drops: 64},
		{Key: "l", Quota: 2, Inst: impl.Inst{Now: 3, Ifaces: someIfaces(1), Rib: impl.Rib{Routes: []impl.Route{
			{Net: impl.Net{Addr: 128, Len: 25}, Metric: 2, Next: 9, Iface: 1, Tag: 7, Until: 5, Changed: true},
			{Net: impl.Net{Addr: 1 << 31, Len: 1}, Metric: 1, Iface: 2},
			{Net: impl.Net{Addr: 1<<31 + 1, Len: 32}, Metric: 16, Next: 1, Iface: 3, Tag: 1000, Bin: 4},
		}}}, Ring: []impl.Sent{{Iface: 2, Bytes: "ab"}, {}}},
	}}
	for tenant, want := range []string{
		"\x06\x80\x01\x00\x00",
		"\x06\x00\x06" +
			"\x80\x02\x32\x04\x12\x02\x0e\x0a\x00\x02" +
			"\x80\x80\x80\x80\x10\x02\x02\x00\x04\x00\x00\x00\x00" +
			"\x82\x80\x80\x80\x10\x40\x20\x02\x06\xd0\x0f\x00\x08\x00" +
			"\x04\x04\x04ab\x00\x00",
	} {
		if got := impl.Observe(b, int64(tenant)); got != want || got != plainObserve(b, int64(tenant)) {
			t.Errorf("Observe of %d:\n got %x\nwant %x", tenant, got, want)
		}
	}
}

// TestObserveSees: what is told is another text if anything of it is another one, and the same whatever else is.
func TestObserveSees(t *testing.T) {
	b := someBox(3)
	was := impl.Observe(b, 1)
	for i, put := range []func(*impl.Tenant){
		func(t *impl.Tenant) { t.Drops++ },
		func(t *impl.Tenant) { t.Ring = nil },
		func(t *impl.Tenant) { t.Ring = t.Ring[:1] },
		func(t *impl.Tenant) { t.Ring = someRing(4) },
		func(t *impl.Tenant) { t.Ring[1].Iface = 2 },
		func(t *impl.Tenant) { t.Ring[1].Bytes = "twp" },
		func(t *impl.Tenant) { t.Inst.Rib.Routes[0].Changed = !t.Inst.Rib.Routes[0].Changed },
		func(t *impl.Tenant) { t.Inst.Rib.Routes[0].Until++ },
		func(t *impl.Tenant) { t.Inst.Rib.Routes[2].Bin++ },
		func(t *impl.Tenant) { t.Inst.Rib.Routes[5].Tag++ },
		func(t *impl.Tenant) { t.Inst.Rib.Routes[5].Iface++ },
		func(t *impl.Tenant) { t.Inst.Rib.Routes[0].Next++ },
		func(t *impl.Tenant) { t.Inst.Rib.Routes[0].Metric++ },
		func(t *impl.Tenant) { t.Inst.Rib.Routes[0].Net.Len++ },
		func(t *impl.Tenant) { t.Inst.Rib.Routes = t.Inst.Rib.Routes[:5] },
	} {
		x := withTenant(b, 1, put)
		if got := impl.Observe(x, 1); got == was || got != plainObserve(x, 1) {
			t.Errorf("the change %d is not seen: got %x", i, got)
		}
	}
	if got := impl.Observe(atNow(b, 21), 1); got == was || got != plainObserve(atNow(b, 21), 1) {
		t.Errorf("another Now is not seen: got %x", got)
	}
	for i, put := range []func(*impl.Box){
		func(b *impl.Box) { b.Tenants[0] = someTenant(2) },
		func(b *impl.Box) { b.Tenants[2].Drops++ },
		func(b *impl.Box) { b.Lost++ },
		func(b *impl.Box) { b.Binds = nil },
		func(b *impl.Box) { b.Leaks = someLeaks(4) },
		func(b *impl.Box) { b.Tenants[1].Key = "another" },
		func(b *impl.Box) { b.Tenants[1].Heard = nil },
	} {
		if got := impl.Observe(with(b, put), 1); got != was {
			t.Errorf("the change %d is seen: got %x", i, got)
		}
	}
	for quota := int64(1); quota <= mostQuota; quota++ {
		for size := range int(quota) + 1 {
			x := withTenant(b, 2, func(t *impl.Tenant) { t.Quota, t.Ring = quota, someRing(size) })
			if got := impl.Observe(x, 2); got != plainObserve(x, 2) {
				t.Errorf("Observe of %d in the Ring: got %x", size, got)
			}
		}
	}
	long := withTenant(b, 0, func(t *impl.Tenant) {
		t.Quota = 6
		t.Ring = slices.Repeat([]impl.Sent{{Bytes: strings.Repeat("x", 1000)}}, 6)
		t.Inst.Rib = someRib(8)
	})
	if got := impl.Observe(long, 0); got != plainObserve(long, 0) || len(got) < 6000 {
		t.Errorf("Observe of much: got %d bytes", len(got))
	}
}

// anySeens are rising, most often about the Ifaces.
func anySeens(r *rand.Rand, l []impl.Iface, now int64) []impl.Seen {
	var out []impl.Seen
	for range r.Intn(mostHeard + 3) {
		s := impl.Seen{From: max(0, min(topAddr, anyFrom(r, l))), Seq: max(0, now-3+r.Int63n(5))}
		if !slices.ContainsFunc(out, func(x impl.Seen) bool { return x.From == s.From }) && len(out) < mostHeard {
			out = append(out, s)
		}
	}
	slices.SortFunc(out, func(a, b impl.Seen) int { return cmp.Compare(a.From, b.From) })
	return out
}

// anyTenant is right; its Key is one of few, so that it is at times another one's too.
func anyTenant(r *rand.Rand, now int64) impl.Tenant {
	l := anyIfaces(r, r.Intn(mostIfaces+1))
	t := impl.Tenant{
		Inst:  impl.Inst{Ifaces: l, Rib: anyLeakRib(r, r.Intn(mostRoutes+1), now), Now: now},
		Key:   append(tenantKeys, rightKeys...)[r.Intn(4)],
		Quota: 1 + r.Int63n(mostQuota),
		Heard: anySeens(r, l, now),
		Drops: []int64{0, 1, 77, impl.MaxTime - 1, impl.MaxTime}[r.Intn(5)],
	}
	for range r.Intn(int(t.Quota) + 1) {
		t.Ring = append(t.Ring, impl.Sent{Iface: r.Int63n(3), Bytes: anyText(r, r.Intn(50))})
	}
	return t
}

// anyBinds are right.
func anyBinds(r *rand.Rand, tenants []impl.Tenant) []impl.Bind {
	var out []impl.Bind
	for range r.Intn(mostBinds + 1) {
		tenant := r.Intn(len(tenants))
		if many := len(tenants[tenant].Inst.Ifaces); many > 0 {
			out = append(out, impl.Bind{Port: r.Int63n(4), Vlan: edgeVlans[r.Intn(len(edgeVlans))], Tenant: int64(tenant), Iface: int64(r.Intn(many))})
		}
	}
	order := func(a, b impl.Bind) int { return cmp.Compare(10000*a.Port+a.Vlan, 10000*b.Port+b.Vlan) }
	slices.SortFunc(out, order)
	return slices.CompactFunc(out, func(a, b impl.Bind) bool { return order(a, b) == 0 })
}

// anyBox is right.
func anyBox(r *rand.Rand) impl.Box {
	b := impl.Box{Leaks: anyLeaks(r, r.Intn(mostRules+1)), Lost: []int64{0, 77, impl.MaxTime - 1, impl.MaxTime}[r.Intn(4)]}
	now := anyStep(r)
	for range 1 + r.Intn(mostTenants) {
		b.Tenants = append(b.Tenants, anyTenant(r, now))
	}
	b.Binds = anyBinds(r, b.Tenants)
	return b
}

// anySaid is a frame for one of these Binds, most often one that may be taken there.
func anySaid(r *rand.Rand, b impl.Box, binds []impl.Bind) (int64, string) {
	if len(binds) == 0 || r.Intn(12) == 0 {
		return int64(r.Intn(6) - 1), anyText(r, r.Intn(60))
	}
	x := binds[r.Intn(len(binds))]
	t := b.Tenants[x.Tenant]
	s := told{vlan: x.Vlan, src: anyIn(r, t.Inst.Ifaces[x.Iface].Net), rip: anyTold(r, t.Inst.Ifaces), key: t.Key, seq: t.Inst.Now + r.Int63n(4)}
	if r.Intn(3) > 0 && len(t.Heard) > 0 {
		seen := t.Heard[r.Intn(len(t.Heard))]
		s.src, s.seq = seen.From, seen.Seq+r.Int63n(3)
	}
	if r.Intn(8) == 0 {
		s.key = tenantKeys[r.Intn(len(tenantKeys))]
	}
	frame := s.frame()
	switch r.Intn(12) {
	case 0:
		frame = turned(frame, r.Intn(len(frame)), 1<<r.Intn(8))
	case 1:
		frame = frame[:r.Intn(len(frame))]
	case 2:
		data := turned(plainDgram(s.dgram()), 8+r.Intn(20), 1<<r.Intn(8))
		frame = plainFrame(impl.Frame{Vlan: x.Vlan, Data: withSums(data)})
	case 3:
		d := s.dgram()
		d.Data = withMac(turned(plainAhead(s.rip, s.seq), r.Intn(12), 1<<r.Intn(8)), s.key)
		frame = s.framed(d)
	}
	return x.Port, frame
}

// cameOf looks what came of a frame.
func cameOf(was impl.Box, is impl.Box) int {
	if was.Lost != is.Lost {
		return isLost
	}
	for i := range was.Tenants {
		if was.Tenants[i].Drops != is.Tenants[i].Drops {
			return isDropped
		}
	}
	return isTaken
}

// TestBoxesAny asks all calls of all kinds of right boxes.
func TestBoxesAny(t *testing.T) {
	r := rand.New(rand.NewSource(90))
	came := map[int]int{}
	for range 8000 {
		b := anyBox(r)
		port, frame := anySaid(r, b, b.Binds)
		tenant := int64(r.Intn(len(b.Tenants)+2) - 1)
		iface := int64(r.Intn(5) - 1)
		holdBoxes(t, "any", b, port, frame, tenant, iface)
		came[cameOf(b, impl.BoxIn(b, port, frame).Box)]++
	}
	for _, x := range []int{isLost, isDropped, isTaken} {
		if came[x] < 500 {
			t.Errorf("%d came of it only %d times", x, came[x])
		}
	}
}

// young is a box that has just begun, of tenants that have two Ifaces each at least, all of them bound.
func young(r *rand.Rand) impl.Box {
	var b impl.Box
	for range 2 + r.Intn(mostTenants-1) {
		t := impl.Tenant{Inst: impl.InstNew(anyIfaces(r, 2)).Inst, Key: tenantKeys[r.Intn(2)], Quota: 1 + r.Int63n(mostQuota)}
		b.Tenants = append(b.Tenants, t)
	}
	for vlan := range int64(len(b.Tenants) * 2) {
		b.Binds = append(b.Binds, impl.Bind{Vlan: 1 + vlan, Tenant: vlan / 2, Iface: vlan % 2})
	}
	return b
}

// anyMove is one of all things that may happen to a box like this one, with frames for these Binds.
func anyMove(r *rand.Rand, b impl.Box, binds []impl.Bind) func(impl.Box) impl.BoxOut {
	tenant, iface, up := int64(r.Intn(len(b.Tenants))), int64(r.Intn(2)), r.Intn(3) > 0
	port, frame := anySaid(r, b, binds)
	switch r.Intn(10) {
	case 0:
		return func(b impl.Box) impl.BoxOut { return impl.Drain(b, tenant) }
	case 1:
		return func(b impl.Box) impl.BoxOut { return impl.LinkSet(b, tenant, iface, up) }
	case 2, 3, 4:
		return impl.BoxTick
	}
	return func(b impl.Box) impl.BoxOut { return impl.BoxIn(b, port, frame) }
}

// moved is the box as it was, if the move tells a code.
func moved(b impl.Box, move func(impl.Box) impl.BoxOut) impl.Box {
	if out := move(b); out.Code == impl.OK {
		return out.Box
	}
	return b
}

// TestBoxesInARow makes each box out of the one ahead of it: they stay right, and as the plain ones.
func TestBoxesInARow(t *testing.T) {
	r := rand.New(rand.NewSource(91))
	for range 60 {
		b := young(r)
		b.Leaks = anyLeaks(r, r.Intn(mostRules+1))
		for range 60 {
			port, frame := anySaid(r, b, b.Binds)
			holdBoxes(t, "in a row", b, port, frame, int64(r.Intn(len(b.Tenants))), int64(r.Intn(2)))
			b = moved(b, anyMove(r, b, b.Binds))
		}
	}
}

// TestP13OneTenantAtMost: of a frame one tenant alone is another one, or none is, and one more is lost.
func TestP13OneTenantAtMost(t *testing.T) {
	r := rand.New(rand.NewSource(92))
	touched := 0
	for range 8000 {
		b := anyBox(r)
		port, frame := anySaid(r, b, b.Binds)
		got := impl.BoxIn(b, port, frame)
		bind := plainBind(b, port, plainVlan(frame))
		many := 0
		for i := range b.Tenants {
			if sameTenant(got.Box.Tenants[i], b.Tenants[i]) {
				continue
			}
			many++
			if bind.Vlan == 0 || int64(i) != bind.Tenant {
				t.Fatalf("BoxIn(%+v, %d, %x): the tenant %d is touched: %+v", b, port, frame, i, got)
			}
		}
		if bind.Vlan == 0 && got.Box.Lost != min(b.Lost+1, impl.MaxTime) || bind.Vlan != 0 && got.Box.Lost != b.Lost {
			t.Fatalf("BoxIn(%+v, %d, %x): got %d lost", b, port, frame, got.Box.Lost)
		}
		if !slices.Equal(got.Box.Binds, b.Binds) || !slices.Equal(got.Box.Leaks, b.Leaks) || len(got.Sent) != 0 {
			t.Fatalf("BoxIn(%+v, %d, %x): more than tenants is touched: %+v", b, port, frame, got)
		}
		touched += many
	}
	if touched < 1000 {
		t.Errorf("only %d were touched", touched)
	}
}

// TestP13NeverTwice: what was once taken is dropped ever after, by whatever Port, Vlan or Iface of the tenant it comes.
func TestP13NeverTwice(t *testing.T) {
	r := rand.New(rand.NewSource(93))
	again := 0
	for range 150 {
		b := young(r)
		type once struct {
			tenant int
			data   string
		}
		var taken []once
		for range 60 {
			port, frame := anySaid(r, b, b.Binds)
			got := impl.BoxIn(b, port, frame)
			if bind := plainBind(b, port, plainVlan(frame)); bind.Vlan != 0 && cameOf(b, got.Box) == isTaken {
				taken = append(taken, once{int(bind.Tenant), frame[frameSize:]})
			}
			b = got.Box
			for _, x := range taken {
				for iface := range int64(2) {
					old := plainFrame(impl.Frame{Vlan: 1 + 2*int64(x.tenant) + iface, Data: x.data})
					holdBox(t, "again", impl.BoxIn(b, 0, old), boxOf(withTenant(b, x.tenant, func(t *impl.Tenant) { t.Drops++ })))
					again++
				}
			}
			b = moved(b, anyMove(r, b, b.Binds))
		}
	}
	if again < 10000 {
		t.Errorf("only %d were taken ahead", again)
	}
}

// TestP13AtOnceAndLater: the same frame twice, with nothing and with much between.
func TestP13AtOnceAndLater(t *testing.T) {
	b := someBox(2)
	frame := someTold().frame()
	first := impl.BoxIn(b, 0, frame)
	holdIn(t, "once", b, frame, 0, isTaken)
	holdIn(t, "twice", first.Box, frame, 0, isDropped)
	x := first.Box
	for range 30 {
		x = impl.BoxTick(x).Box
		holdIn(t, "later", x, frame, 0, isDropped)
	}
	down := impl.LinkSet(x, 0, 0, false).Box
	holdIn(t, "down and up again", impl.LinkSet(down, 0, 0, true).Box, frame, 0, isDropped)
	holdIn(t, "drained", impl.Drain(x, 0).Box, frame, 0, isDropped)
	later := someTold()
	later.seq = 22
	holdIn(t, "the next one", x, later.frame(), 0, isTaken)
}

// TestP13Quota: whatever happens, no Ring is longer than its Quota, and nothing leaves it but by Drain.
func TestP13Quota(t *testing.T) {
	r := rand.New(rand.NewSource(94))
	full := 0
	for range 100 {
		b := young(r)
		for range 80 {
			out := anyMove(r, b, b.Binds)(b)
			if out.Code != impl.OK {
				continue
			}
			for i, x := range out.Box.Tenants {
				was := b.Tenants[i]
				if int64(len(x.Ring)) > x.Quota || x.Quota != was.Quota {
					t.Fatalf("the tenant %d: got %+v", i, x)
				}
				if int64(len(x.Ring)) == x.Quota {
					full++
				}
				if len(x.Ring) < len(was.Ring) && !slices.Equal(out.Sent, was.Ring) {
					t.Fatalf("the tenant %d: %+v is gone, and %+v sent", i, was.Ring, out.Sent)
				}
			}
			b = out.Box
		}
	}
	if full < 1000 {
		t.Errorf("only %d were full", full)
	}
}

// reached are the tenants that have something of that one, by rules one behind the other, and itself.
func reached(l []impl.Leak, from int64) []int64 {
	out := []int64{from}
	for range mostTenants {
		for _, x := range l {
			if slices.Contains(out, x.From) && !slices.Contains(out, x.To) {
				out = append(out, x.To)
			}
		}
	}
	return out
}

// bindsOf are those of one tenant.
func bindsOf(b impl.Box, tenant int64) []impl.Bind {
	return slices.DeleteFunc(slices.Clone(b.Binds), func(x impl.Bind) bool { return x.Tenant != tenant })
}

// holdApart asks that the tenants that are not named are in two boxes alike, see alike, and send alike.
func holdApart(t *testing.T, a impl.Box, b impl.Box, but []int64) {
	t.Helper()
	for i := range a.Tenants {
		tenant := int64(i)
		if slices.Contains(but, tenant) {
			continue
		}
		if !sameTenant(a.Tenants[i], b.Tenants[i]) || impl.Observe(a, tenant) != impl.Observe(b, tenant) || !slices.Equal(impl.Drain(a, tenant).Sent, impl.Drain(b, tenant).Sent) {
			t.Fatalf("the tenant %d has\n%+v, and would have\n%+v", i, a.Tenants[i], b.Tenants[i])
		}
		for iface := range int64(2) {
			if impl.Wrap(a, tenant, iface, true) != impl.Wrap(b, tenant, iface, true) {
				t.Fatalf("the tenant %d sends %x, and would send %x", i, impl.Wrap(a, tenant, iface, true), impl.Wrap(b, tenant, iface, true))
			}
		}
	}
}

// TestP14Apart: two boxes go the same way, but to one of them a tenant's neighbours send as much as they can. Who has nothing of it by rules is the same in both; and what is sent to that one is taken alike.
func TestP14Apart(t *testing.T) {
	r := rand.New(rand.NewSource(95))
	apart, changed := 0, 0
	for range 200 {
		a := young(r)
		a.Leaks = anyLeaks(r, r.Intn(3))
		b := a
		loud := int64(r.Intn(len(a.Tenants)))
		but := reached(a.Leaks, loud)
		quiet := slices.DeleteFunc(slices.Clone(a.Binds), func(x impl.Bind) bool { return x.Tenant == loud })
		for range 40 {
			for range r.Intn(4) {
				port, frame := anySaid(r, a, bindsOf(a, loud))
				a = impl.BoxIn(a, port, frame).Box
				holdApart(t, a, b, but)
			}
			move := anyMove(r, a, quiet)
			a, b = moved(a, move), moved(b, move)
			holdApart(t, a, b, but)
		}
		apart += len(a.Tenants) - len(but)
		if !sameTenant(a.Tenants[loud], b.Tenants[loud]) {
			changed++
		}
	}
	if apart < 100 || changed < 150 {
		t.Errorf("only %d are apart, and %d changed", apart, changed)
	}
}

// flood has 300 neighbours of the tenant 0 of someBox send, rightly signed and not, of all Nets.
func flood(r *rand.Rand, b impl.Box) impl.Box {
	for i := range int64(300) {
		s := told{vlan: 10, src: 0x0A000002 + i%16, rip: anyTold(r, b.Tenants[0].Inst.Ifaces), key: "red", seq: b.Tenants[0].Inst.Now + i}
		if i%5 == 0 {
			s.key = "blue"
		}
		b = impl.BoxIn(b, 0, s.frame()).Box
	}
	return b
}

// TestP14HoweverMuch: without a rule, with rules that lead elsewhere, and with one that lets nothing of it through.
func TestP14HoweverMuch(t *testing.T) {
	r := rand.New(rand.NewSource(96))
	shut := impl.Net{Addr: 0xC0A80000, Len: 24}
	for what, l := range map[string][]impl.Leak{
		"no rule":                        nil,
		"to whom they send":              {{From: 1, To: 0, Add: 1, Tag: 1000}},
		"among the others":               {{From: 1, To: 2, Add: 1, Tag: 1000}, {From: 2, To: 1, Add: 2, Tag: 1001}},
		"to whom they send, of all":      {{From: 1, To: 0, Add: 1, Tag: 1000}, {From: 2, To: 0, Add: 1, Tag: 1001}, {From: 1, To: 2, Add: 1, Tag: 1002}},
		"what is told is not of the Net": {{From: 0, To: 1, Within: shut, Add: 1, Tag: 1000}, {From: 0, To: 2, Within: shut, Add: 1, Tag: 1001}},
	} {
		a := with(someBox(3), func(b *impl.Box) { b.Leaks = l })
		a.Tenants[0].Heard = nil
		a.Tenants[0].Inst.Rib = impl.InstNew(someIfaces(2)).Inst.Rib
		b := a
		for range 15 {
			a = flood(r, a)
			holdApart(t, a, b, []int64{0})
			a, b = impl.BoxTick(a).Box, impl.BoxTick(b).Box
			holdApart(t, a, b, []int64{0})
		}
		if a.Tenants[0].Drops < 2000 || len(a.Tenants[0].Inst.Rib.Routes) < 5 {
			t.Errorf("%s: it was not much: %+v", what, a.Tenants[0])
		}
	}
}

// TestP14ByTheRule: with a rule to another one, that one has of it what the rule lets through, and else is as it would be; the third one is not changed.
func TestP14ByTheRule(t *testing.T) {
	within := impl.Net{Addr: 0x0A000000, Len: 8}
	inside, outside := impl.Net{Addr: 0x0A020000, Len: 16}, impl.Net{Addr: 0x0C000000, Len: 8}
	a := with(someBox(3), func(b *impl.Box) { b.Leaks = []impl.Leak{{From: 0, To: 1, Within: within, Add: 2, Tag: 1234}} })
	for i := range a.Tenants {
		a.Tenants[i].Inst.Rib = impl.Rib{Routes: []impl.Route{ownRoute(netsOfAll()[10])}}
	}
	b := a
	s := someTold()
	s.rip = tell(impl.Entry{Net: inside, Metric: 3}, impl.Entry{Net: outside, Metric: 3})
	a = impl.BoxIn(a, 0, s.frame()).Box
	holdApart(t, a, b, []int64{0})
	a, b = impl.BoxTick(a).Box, impl.BoxTick(b).Box
	holdApart(t, a, b, []int64{0, 1})
	want := withTenant(b, 1, func(t *impl.Tenant) {
		t.Inst.Rib = plainWith(t.Inst.Rib, impl.Route{Net: inside, Metric: 6, Next: 1, Iface: 3, Tag: 1234, Until: 27, Changed: true})
	})
	holdApart(t, a, want, []int64{0})
}

// scribbled is a copy of all that was told, which is then written over.
func scribbled(out impl.BoxOut) impl.BoxOut {
	kept := impl.BoxOut{Box: copyBox(out.Box), Sent: slices.Clone(out.Sent), Code: out.Code}
	for i := range out.Box.Tenants {
		x := &out.Box.Tenants[i]
		scribble(x.Inst)
		for at := range x.Ring {
			x.Ring[at] = impl.Sent{Iface: 77}
		}
		for at := range x.Heard {
			x.Heard[at] = impl.Seen{From: 77}
		}
		_ = append(x.Ring, impl.Sent{Iface: 78})
		_ = append(x.Heard, impl.Seen{From: 78})
		*x = impl.Tenant{}
	}
	for at := range out.Box.Binds {
		out.Box.Binds[at] = impl.Bind{Port: 77}
	}
	for at := range out.Box.Leaks {
		out.Box.Leaks[at] = impl.Leak{Add: 77}
	}
	for at := range out.Sent {
		out.Sent[at] = impl.Sent{Iface: 77}
	}
	_ = append(out.Box.Tenants, impl.Tenant{Quota: 78})
	_ = append(out.Box.Binds, impl.Bind{Port: 78})
	_ = append(out.Box.Leaks, impl.Leak{Add: 78})
	_ = append(out.Sent, impl.Sent{Iface: 78})
	return kept
}

// roomy has room behind each of its lists, with something in it that is nobody's to write into; what is told beside looks whether it is so still.
func roomy(b impl.Box) (impl.Box, func() bool) {
	whole := copyBox(b)
	whole.Tenants = append(whole.Tenants, impl.Tenant{Quota: 71}, impl.Tenant{Quota: 72})
	whole.Binds = append(whole.Binds, impl.Bind{Port: 71}, impl.Bind{Port: 72})
	whole.Leaks = append(whole.Leaks, impl.Leak{Add: 71}, impl.Leak{Add: 72})
	for i := range b.Tenants {
		x := &whole.Tenants[i]
		x.Ring = append(x.Ring, impl.Sent{Iface: 71}, impl.Sent{Iface: 72})
		x.Heard = append(x.Heard, impl.Seen{From: 71}, impl.Seen{From: 72})
		x.Inst.Ifaces = append(x.Inst.Ifaces, impl.Iface{Cost: 71}, impl.Iface{Cost: 72})
		x.Inst.Rib.Routes = append(x.Inst.Rib.Routes, impl.Route{Tag: 71}, impl.Route{Tag: 72})
	}
	were := copyBox(whole)
	wide := copyBox(whole)
	for i := range b.Tenants {
		x := &whole.Tenants[i]
		wide.Tenants[i] = *x
		x.Ring = x.Ring[:len(b.Tenants[i].Ring)]
		x.Heard = x.Heard[:len(b.Tenants[i].Heard)]
		x.Inst.Ifaces = x.Inst.Ifaces[:len(b.Tenants[i].Inst.Ifaces)]
		x.Inst.Rib.Routes = x.Inst.Rib.Routes[:len(b.Tenants[i].Inst.Rib.Routes)]
	}
	tenants, heads := whole.Tenants, slices.Clone(whole.Tenants)
	wide.Binds, wide.Leaks = whole.Binds, whole.Leaks
	whole.Tenants, whole.Binds, whole.Leaks = tenants[:len(b.Tenants)], whole.Binds[:len(b.Binds)], whole.Leaks[:len(b.Leaks)]
	return whole, func() bool {
		return sameBox(wide, were) && slices.EqualFunc(tenants, heads, sameTenant)
	}
}

// boxCalls are all calls that tell a box, of all kinds of what may come of them.
func boxCalls() []func(impl.Box) impl.BoxOut {
	ask := someTold()
	ask.rip.Cmd = impl.CmAsk
	bad := someTold()
	bad.key = "blue"
	other := someTold()
	other.src = by0 + 1
	calls := []func(impl.Box) impl.BoxOut{impl.BoxTick, func(b impl.Box) impl.BoxOut { return impl.BoxTick(atNow(b, 20)) }}
	for _, frame := range []string{someTold().frame(), ask.frame(), bad.frame(), other.frame(), "x"} {
		calls = append(calls, func(b impl.Box) impl.BoxOut { return impl.BoxIn(b, 0, frame) })
	}
	for tenant := int64(-1); tenant < 4; tenant++ {
		calls = append(calls, func(b impl.Box) impl.BoxOut { return impl.Drain(b, tenant) })
		for iface := range int64(3) {
			calls = append(calls, func(b impl.Box) impl.BoxOut { return impl.LinkSet(b, tenant, iface, true) })
			calls = append(calls, func(b impl.Box) impl.BoxOut { return impl.LinkSet(b, tenant, iface, false) })
		}
	}
	return append(calls, func(b impl.Box) impl.BoxOut {
		impl.Wrap(b, 0, 0, true)
		impl.Observe(b, 0)
		impl.BindOf(b, 0, 10)
		return noBox(impl.ErrNone)
	})
}

// TestBoxKeepsNothing: no call writes into a box, and none hands a piece of it out.
func TestBoxKeepsNothing(t *testing.T) {
	for many := 1; many <= mostTenants; many++ {
		for size := range 5 {
			for i, call := range boxCalls() {
				first := with(someBox(many), func(b *impl.Box) {
					b.Leaks = someLeaks(size)
					for at := range b.Tenants {
						x := &b.Tenants[at]
						x.Inst.Rib = someRib(2 * size)
						x.Heard = append(x.Heard, impl.Seen{From: topAddr})[:min(size, 3)]
						x.Ring = x.Ring[:min(size, 2)]
					}
					if size%2 == 1 {
						b.Tenants[0].Inst = withDown(b.Tenants[0].Inst, 1)
					}
				})
				b, kept := roomy(first)
				if !kept() || !sameBox(b, first) {
					t.Fatal("the test's own box is not as it should be")
				}
				out := scribbled(call(b))
				if !kept() || !sameBox(b, first) {
					t.Errorf("call %d of %d tenants: what was handed in is changed: %+v", i, many, b)
				}
				holdBox(t, "again", call(b), out)
			}
		}
	}
}

// textsOf are all texts of what was told.
func textsOf(out impl.BoxOut) []string {
	var l []string
	add := func(sent []impl.Sent) {
		for _, s := range sent {
			l = append(l, s.Bytes)
		}
	}
	for _, x := range out.Box.Tenants {
		l = append(l, x.Key)
		add(x.Ring)
	}
	add(out.Sent)
	return l
}

// TestBoxSharesNoText: neither with a box nor with a frame.
func TestBoxSharesNoText(t *testing.T) {
	b := someBox(2)
	given := textsOf(boxOf(b))
	for i, call := range boxCalls() {
		told := textsOf(call(b))
		for at, a := range told {
			for _, x := range given {
				if shares(a, x) {
					t.Errorf("call %d: %q is the one that was handed in", i, a)
				}
			}
			for _, x := range told[:at] {
				if shares(a, x) {
					t.Errorf("call %d: %q is there twice", i, a)
				}
			}
		}
	}
}

// TestBoxSharesNothing: no two tenants that are told share a list or a text, even if those handed in do.
func TestBoxSharesNothing(t *testing.T) {
	one := someTenant(0)
	for i, call := range boxCalls() {
		b := impl.Box{Tenants: []impl.Tenant{one, one, one}, Binds: someBox(3).Binds, Leaks: someLeaks(3)}
		want := call(copyBox(b))
		got := call(b)
		for at := range got.Box.Tenants {
			if !sameTenant(got.Box.Tenants[at], want.Box.Tenants[at]) {
				t.Errorf("call %d: the tenant %d is written into by others: %+v", i, at, got.Box.Tenants[at])
			}
			x := got.Box.Tenants[at]
			scribble(x.Inst)
			for place := range x.Ring {
				x.Ring[place] = impl.Sent{Iface: 77}
			}
			for place := range x.Heard {
				x.Heard[place] = impl.Seen{From: 77}
			}
		}
		if !sameTenant(one, someTenant(0)) {
			t.Fatalf("call %d: what was handed in is changed: %+v", i, one)
		}
		texts := textsOf(got)
		for at, a := range texts {
			for _, x := range texts[:at] {
				if shares(a, x) {
					t.Errorf("call %d: %q is there twice", i, a)
				}
			}
		}
	}
}
