package epoch

import (
	"slices"

	"headend/api"
	"headend/cover"
)

// reader is the bytes of a packet that are not read yet, and the first error of reading, after which nothing is read.
type reader struct {
	rest []byte
	e    api.Errno
}

// read hands the next bytes over to what uses them.
func (r *reader) read(size int, use func(b []byte) api.Errno) {
	switch {
	case r.e != api.OK:
	case size < 0 || size > len(r.rest):
		r.e = api.ErrBad
	default:
		r.e = use(r.rest[:size])
		r.rest = r.rest[size:]
	}
}

func (r *reader) number(size int) uint64 {
	number := uint64(0)
	r.read(size, func(b []byte) api.Errno {
		for _, c := range b {
			number = number<<8 | uint64(c)
		}
		return api.OK
	})
	return number
}

// packet reads a packet, whose numbers may be outside of their ranges.
func (r *reader) packet() api.Packet {
	p := api.Packet{Kind: uint8(r.number(byteSize))}
	part := r.content
	if p.Kind == api.PacketHeader {
		part = r.header
	}
	part(&p)
	r.read(macSize, func(b []byte) api.Errno {
		copy(p.Mac[:], b)
		return api.OK
	})
	return p
}

// header reads what only header packets have.
func (r *reader) header(p *api.Packet) {
	p.Epoch = int(r.number(numberSize))
	r.read(len(r.rest)-macSize, func(b []byte) (e api.Errno) {
		p.Head, e = cover.Decode(b)
		return e
	})
}

// content reads what only content packets have.
func (r *reader) content(p *api.Packet) {
	p.Low = uint8(r.number(byteSize))
	p.Number = r.number(numberSize)
	r.read(int(r.number(lengthSize)), func(b []byte) api.Errno {
		p.Data = slices.Clone(b)
		return api.OK
	})
}
