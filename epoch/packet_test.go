package epoch_test

import (
	"bytes"
	"encoding/hex"
	"math"
	"math/rand"
	"slices"
	"testing"

	"headend/api"
	"headend/epoch"
)

// anyPacket returns a packet that is valid, with anything in it.
func anyPacket(r *rand.Rand) api.Packet {
	if r.Intn(2) == 0 {
		size := []int{0, 1, 15, 16, 17, 255, 256, r.Intn(257)}[r.Intn(8)]
		return api.Packet{Kind: 2, Low: uint8(r.Intn(4)), Number: r.Uint64(), Data: randomBytes(r, size), Mac: random(r)}
	}
	p := api.Packet{Kind: 1, Epoch: []int{0, api.MaxTick, r.Intn(api.MaxTick)}[r.Intn(3)], Mac: random(r)}
	p.Head = api.Header{Base: r.Uint64(), Box: random(r), Check: random(r)}
	for range []int{0, 1, 2, 63, 64, r.Intn(65)}[r.Intn(6)] {
		x := api.Subset{Node: r.Intn(128), Minus: r.Intn(128)}
		p.Head.Items = append(p.Head.Items, api.Item{Subset: x, Box: random(r)})
	}
	for range []int{0, 1, 2, 7, 8}[r.Intn(5)] {
		p.Head.Points = append(p.Head.Points, api.Point{X: r.Uint64(), Y: r.Uint64()})
	}
	return p
}

func TestEncodeAndDecode(t *testing.T) { // P5.5, P5.8, R6
	r := rand.New(rand.NewSource(1))
	for range 2000 {
		p := anyPacket(r)
		if e := epoch.CheckPacket(p); e != api.OK {
			t.Fatalf("%+v: %v", p, e)
		}
		b, e := epoch.Encode(p)
		if e != api.OK || !bytes.Equal(b, bytesOf(p)) {
			t.Fatalf("%+v: %x, %v", p, b, e)
		}
		back, e := epoch.Decode(b)
		if e != api.OK || !isSamePacket(back, p) {
			t.Fatalf("%x: %+v, %v", b, back, e)
		}
	}
}

func TestPacketsAtTheLimits(t *testing.T) { // P5.5, R4
	r := rand.New(rand.NewSource(2))
	full := api.Packet{Kind: 1, Epoch: api.MaxTick, Head: api.Header{Items: make([]api.Item, 64), Points: make([]api.Point, 8), Base: math.MaxUint64}}
	for i := range full.Head.Items {
		full.Head.Items[i].Subset = api.Subset{Node: 127, Minus: 127}
	}
	for i, p := range []api.Packet{
		{Kind: 1},
		{Kind: 2},
		{Kind: 1, Data: []byte{}, Head: api.Header{Items: []api.Item{}, Points: []api.Point{}}},
		{Kind: 2, Data: []byte{}, Head: api.Header{Items: []api.Item{}, Points: []api.Point{}}},
		{Kind: 2, Low: 3, Number: math.MaxUint64, Data: make([]byte, 256), Mac: random(r)},
		full,
	} {
		if e := epoch.CheckPacket(p); e != api.OK {
			t.Errorf("%d: %v", i, e)
		}
		b, e := epoch.Encode(p)
		if e != api.OK || !bytes.Equal(b, bytesOf(p)) {
			t.Errorf("%d: %x, %v", i, b, e)
		}
		if back, e := epoch.Decode(b); e != api.OK || !isSamePacket(back, p) {
			t.Errorf("%d: %+v, %v", i, back, e)
		}
	}
}

// changes returns what makes packets of a kind invalid.
func changes(kind uint8) []func(p *api.Packet) {
	l := []func(p *api.Packet){
		func(p *api.Packet) { p.Kind = 0 },
		func(p *api.Packet) { p.Kind = 3 - kind },
		func(p *api.Packet) { p.Kind = 3 },
		func(p *api.Packet) { p.Kind = 255 },
	}
	if kind == api.PacketContent {
		l = append(l,
			func(p *api.Packet) { p.Low = 4 },
			func(p *api.Packet) { p.Low = 255 },
			func(p *api.Packet) { p.Data = make([]byte, 257) },
			func(p *api.Packet) { p.Data = make([]byte, 65536+3) },
			func(p *api.Packet) { p.Epoch = 1 },
			func(p *api.Packet) { p.Epoch = -1 },
			func(p *api.Packet) { p.Head.Items = make([]api.Item, 1) },
			func(p *api.Packet) { p.Head.Points = make([]api.Point, 1) },
			func(p *api.Packet) { p.Head.Base = 1 },
			func(p *api.Packet) { p.Head.Box[15] = 1 },
			func(p *api.Packet) { p.Head.Check[0] = 1 },
		)
		return l
	}
	item := func(node, minus int) api.Item { return api.Item{Subset: api.Subset{Node: node, Minus: minus}} }
	l = append(l,
		func(p *api.Packet) { p.Low = 1 },
		func(p *api.Packet) { p.Number = 1 },
		func(p *api.Packet) { p.Number = 1 << 63 },
		func(p *api.Packet) { p.Data = []byte{0} },
		func(p *api.Packet) { p.Head.Items = make([]api.Item, 65) },
		func(p *api.Packet) { p.Head.Items = make([]api.Item, 256) },
		func(p *api.Packet) { p.Head.Points = make([]api.Point, 9) },
		func(p *api.Packet) { p.Head.Points = make([]api.Point, 256+3) },
	)
	for _, far := range append(wild(), 128, 129, 255, 256, 257, 1<<32+1) {
		if far < 0 || far > api.MaxTick {
			l = append(l, func(p *api.Packet) { p.Epoch = far })
		}
		l = append(l,
			func(p *api.Packet) { p.Head.Items = []api.Item{item(far, 1), item(1, 1)} },
			func(p *api.Packet) { p.Head.Items = []api.Item{item(1, 1), item(1, far)} },
		)
	}
	return l
}

func TestWrongPackets(t *testing.T) { // P5.5, R2, R5
	r := rand.New(rand.NewSource(3))
	for range 20 {
		p := anyPacket(r)
		if p.Kind == api.PacketHeader {
			p.Head.Base = 7
		} else {
			p.Number = 7
		}
		for i, change := range changes(p.Kind) {
			q := p
			change(&q)
			if e := epoch.CheckPacket(q); e != api.ErrBad {
				t.Errorf("kind %d, change %d: %v", p.Kind, i, e)
			}
			if b, e := epoch.Encode(q); e != api.ErrBad || len(b) > 0 {
				t.Errorf("kind %d, change %d: %x, %v", p.Kind, i, b, e)
			}
		}
	}
	if e := epoch.CheckPacket(api.Packet{}); e != api.ErrBad {
		t.Error(e)
	}
}

func refusesBytes(t *testing.T, b []byte) {
	t.Helper()
	if p, e := epoch.Decode(b); e != api.ErrBad || !isSamePacket(p, api.Packet{}) {
		t.Errorf("%x: %+v, %v", b, p, e)
	}
}

func TestDecodeOfNoPacket(t *testing.T) { // P5.5, R2, R7
	r := rand.New(rand.NewSource(4))
	refusesBytes(t, nil)
	refusesBytes(t, []byte{})
	for range 30 {
		b := bytesOf(anyPacket(r))
		for n := range b {
			refusesBytes(t, b[:n])
		}
		for n := 1; n < 40; n++ {
			refusesBytes(t, append(slices.Clone(b), randomBytes(r, n)...))
		}
		for _, kind := range []byte{0, 3, 128, 255} {
			wrong := slices.Clone(b)
			wrong[0] = kind
			refusesBytes(t, wrong)
		}
	}
}

// The bytes that a packet outside of the ranges would have are not those of a packet.
func TestDecodeOfWrongPackets(t *testing.T) { // P5.5, R5
	for _, n := range []int{-1, math.MinInt, math.MaxInt, api.MaxTick + 1, 1 << 41, 1 << 56} {
		refusesBytes(t, bytesOf(api.Packet{Kind: 1, Epoch: n}))
	}
	for _, n := range []int{65, 66, 128, 255} {
		refusesBytes(t, bytesOf(api.Packet{Kind: 1, Head: api.Header{Items: make([]api.Item, n)}}))
	}
	for _, n := range []int{9, 10, 255} {
		refusesBytes(t, bytesOf(api.Packet{Kind: 1, Head: api.Header{Points: make([]api.Point, n)}}))
	}
	for _, n := range []int{128, 129, 255} {
		for _, x := range []api.Subset{{Node: n}, {Minus: n}, {Node: n, Minus: n}} {
			items := make([]api.Item, 3)
			for i := range items {
				items[i].Subset = x
				refusesBytes(t, bytesOf(api.Packet{Kind: 1, Head: api.Header{Items: items}}))
				items[i].Subset = api.Subset{}
			}
		}
	}
	for low := 4; low < 256; low++ {
		refusesBytes(t, bytesOf(api.Packet{Kind: 2, Low: uint8(low), Data: []byte{1}}))
	}
	for _, n := range []int{257, 258, 512, 1000, 32768, 65535} {
		refusesBytes(t, bytesOf(api.Packet{Kind: 2, Data: make([]byte, n)}))
	}
}

func TestEncodeOfWhatWasDecoded(t *testing.T) { // P5.8
	r := rand.New(rand.NewSource(5))
	decoded := 0
	for range 20000 {
		b := bytesOf(anyPacket(r))
		for range r.Intn(3) {
			b[r.Intn(min(len(b), 30))] = byte(r.Intn(256))
		}
		p, e := epoch.Decode(b)
		if e != api.OK {
			refusesBytes(t, b)
			continue
		}
		decoded++
		if again, e := epoch.Encode(p); e != api.OK || !bytes.Equal(again, b) {
			t.Fatalf("%x: %x, %v", b, again, e)
		}
	}
	if decoded < 1000 {
		t.Error("only", decoded, "were decoded")
	}
}

func TestHead(t *testing.T) { // P5.6
	r := rand.New(rand.NewSource(6))
	for _, s := range schemes() {
		for _, n := range []int{0, 1, r.Intn(api.MaxTick), api.MaxTick} {
			root, revoked := random(r), someList(r, s)
			p, e := epoch.Head(root, s, n, revoked)
			if e != api.OK || !isSamePacket(p, headOf(t, root, s, n, revoked)) || epoch.CheckPacket(p) != api.OK {
				t.Errorf("%+v, %d, %v: %+v, %v", s, n, revoked, p, e)
			}
		}
	}
}

func TestContent(t *testing.T) { // P5.6
	r := rand.New(rand.NewSource(7))
	for _, a := range airs() {
		for _, tick := range someTicks(r, a) {
			root, number, data := random(r), r.Uint64(), randomBytes(r, r.Intn(257))
			p, e := epoch.Content(root, a, tick, number, data)
			if e != api.OK || !isSamePacket(p, contentOf(root, a, tick, number, data)) || epoch.CheckPacket(p) != api.OK {
				t.Fatalf("%+v, %d: %+v, %v", a, tick, p, e)
			}
		}
		for _, size := range []int{0, 1, 255, 256} {
			if p, e := epoch.Content(random(r), a, 9, 9, make([]byte, size)); e != api.OK || len(p.Data) != size {
				t.Errorf("%d bytes: %d, %v", size, len(p.Data), e)
			}
		}
	}
}

func TestContentErrors(t *testing.T) { // P5.6, R2, R5
	for _, a := range airs() {
		for _, tick := range wild() {
			for _, size := range []int{0, 256, 257} {
				if p, e := epoch.Content(api.Key{}, a, tick, 0, make([]byte, size)); e != api.ErrArg || !isSamePacket(p, api.Packet{}) {
					t.Errorf("%+v, %d: %+v, %v", a, tick, p, e)
				}
			}
		}
		for _, size := range []int{257, 1000, 16384, 16385, 1 << 20} {
			if p, e := epoch.Content(api.Key{}, a, 0, 0, make([]byte, size)); e != api.ErrArg || !isSamePacket(p, api.Packet{}) {
				t.Errorf("%d bytes: %+v, %v", size, p, e)
			}
		}
	}
}

func TestFixedHeaderPackets(t *testing.T) { // P5.5, P5.6
	large := api.Group{P: 1048343, Q: 524171, G: 1048338}
	for _, c := range []struct {
		root    api.Key
		s       api.Scheme
		epoch   int
		revoked []int
		want    string
	}{
		{upKey(t), scheme(1, 3), 0, []int{2, 3}, "0100000000000000000203001c7e5c396fafbc3eb96416184f2f308d04009c3724ebc67817f61f462cd431638d7f00000000000000000000000000000000000000000000000000bce6ea48c51c646bc3e1b8d81b1d85e6bf2d375b1c79759267fea25522f97bed"},
		{upKey(t), scheme(2, 3), 5, []int{0, 5}, "0100000000000000050202089100f80ced235cb5dd829e7f8d0e5c6e030de88a359feb731dd5d194b5d9725d7881000000000000000000000000000000000000000000000000006a1033057e552b616209093ceac5110c0f346652270102402476ac55bb8d5eaf"},
		{downKey(t), scheme(3, 3), api.MaxTick, []int{0, 5}, "010000010000000000040204a60d1da63ab874fd8d818e5a3b11c0c903063ddc9bc921c95a6846676e6adf8fe422040820784d7eedd7b05b17ad6ee00c755eea060d3efc7df3b286b12b9bc3d533ea00362300000000000000000000000000000000000000000000000000b080a538eff72fa647f4366cabcc2e68d350a246e6a96709a724fe75299f8edc"},
		{downKey(t), scheme(2, 3), 258, nil, "010000000000000102010100928d000f0d04e54b7d75c3492e4373c20000000000000000000000000000000000000000000000000028be160c597eecaa41c3ff7185ec37bc44623878a56daf6f75d975ad13d69342"},
		{downKey(t), scheme(1, 1), 3, []int{0, 1}, "0100000000000000030000000000000000000000000000000000000000000000000000838fbf54491ac56feaa5626d2248519d365f3b086698371ca04d25f5de79cef8"},
		{upKey(t), polyScheme(2, 2), 7, []int{1}, "010000000000000007000000000000000006020000000000000002000000000000001000000000000000050000000000000004b7b75c9f15de2fd5d060a4951d0d3567a006f92dd692f871acda01c831273f1baaa70edd8f69e18e141d5e3b88d2a6d9"},
		{downKey(t), api.Scheme{Kind: 4, Depth: 6, Degree: 3, Group: large}, 258, []int{0, 63}, "0100000000000001020000000000000fa19e03000000000000000100000000000e69be000000000000004000000000000df1e30000000000000041000000000008fb90030cd0d9599089f178b653439c43641a28be160c597eecaa41c3ff7185ec37bcad33cc6605e5a664be9929c1ff3a4e37"},
	} {
		p := must[api.Packet](t)(epoch.Head(c.root, c.s, c.epoch, c.revoked))
		b := must[[]byte](t)(epoch.Encode(p))
		if hex.EncodeToString(b) != c.want {
			t.Errorf("%+v, %d, %v: %x", c.s, c.epoch, c.revoked, b)
		}
	}
}

func TestFixedContentPackets(t *testing.T) { // P5.5, P5.6, Examples
	twenty := make([]byte, 20)
	for i := range twenty {
		twenty[i] = byte(i)
	}
	for _, c := range []struct {
		root   api.Key
		a      api.Air
		tick   int
		number uint64
		data   []byte
		want   string
	}{
		{upKey(t), example(), 95, 7, []byte("abc"), "0201000000000000000700037892654cb5fa5b35fd72212b4477939100da68"},
		{downKey(t), api.Air{Epoch: 8, Word: 4}, api.MaxTick, math.MaxUint64, twenty, "0200ffffffffffffffff00144053930645519ede74bccafdc278114064f14bd9cadd6d8f2f586ad9afe8a18112f829d0"},
		{upKey(t), api.Air{Epoch: 1, Word: 1}, 2, 0, nil, "020200000000000000000000d0ed64fa2724de3a1f9527f857f49aa8"},
	} {
		p := must[api.Packet](t)(epoch.Content(c.root, c.a, c.tick, c.number, c.data))
		b := must[[]byte](t)(epoch.Encode(p))
		if hex.EncodeToString(b) != c.want || len(b) != 28+len(c.data) {
			t.Errorf("%+v, %d: %x", c.a, c.tick, b)
		}
	}
}
