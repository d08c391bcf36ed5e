package epoch

import (
	"headend/api"
	"headend/cover"
)

// How many bytes the parts of a packet take.
const (
	byteSize   = 1
	numberSize = 8
	lengthSize = 2
	macSize    = 16
)

// CheckPacket returns ErrBad unless a packet is valid.
func CheckPacket(p api.Packet) api.Errno {
	if isHeaderPacket(p) || isContentPacket(p) {
		return api.OK
	}
	return api.ErrBad
}

func isHeaderPacket(p api.Packet) bool {
	if p.Kind != api.PacketHeader || !isEpoch(p.Epoch) || p.Low != 0 || p.Number != 0 || len(p.Data) > 0 {
		return false
	}
	if len(p.Head.Items) > api.MaxItems || len(p.Head.Points) > api.MaxDegree {
		return false
	}
	for _, item := range p.Head.Items {
		if !isNode(item.Subset.Node) || !isNode(item.Subset.Minus) {
			return false
		}
	}
	return true
}

// isNode reports whether n is 0 or a node of the largest tree.
func isNode(n int) bool { return n >= 0 && n < 2<<api.MaxDepth }

func isContentPacket(p api.Packet) bool {
	if p.Kind != api.PacketContent || p.Epoch != 0 || p.Low >= lows || len(p.Data) > api.MaxData {
		return false
	}
	h := p.Head
	return len(h.Items) == 0 && h.Base == 0 && len(h.Points) == 0 && h.Box == (api.Key{}) && h.Check == (api.Key{})
}

// appendNumber returns b with a number of some bytes behind it.
func appendNumber(b []byte, number uint64, size int) []byte {
	for i := size - 1; i >= 0; i-- {
		b = append(b, byte(number>>(8*i)))
	}
	return b
}

// body returns the bytes of a packet that is valid without its MAC.
func body(p api.Packet) []byte {
	b := []byte{p.Kind}
	if p.Kind == api.PacketHeader {
		// A header whose packet is valid has an encoding.
		head, _ := cover.Encode(p.Head)
		return append(appendNumber(b, uint64(p.Epoch), numberSize), head...)
	}
	b = append(b, p.Low)
	b = appendNumber(b, p.Number, numberSize)
	b = appendNumber(b, uint64(len(p.Data)), lengthSize)
	return append(b, p.Data...)
}

// Encode returns the bytes of a packet.
func Encode(p api.Packet) ([]byte, api.Errno) {
	if e := CheckPacket(p); e != api.OK {
		return nil, e
	}
	return append(body(p), p.Mac[:]...), api.OK
}

// Decode returns the packet that has some bytes.
func Decode(b []byte) (api.Packet, api.Errno) {
	r := reader{rest: b}
	p := r.packet()
	if r.e != api.OK || len(r.rest) > 0 || CheckPacket(p) != api.OK {
		return api.Packet{}, api.ErrBad
	}
	return p, api.OK
}
