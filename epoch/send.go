package epoch

import (
	"headend/api"
	"headend/cipher"
)

// macOf returns the MAC under a key of the body of a packet that is valid, and so not too long.
func macOf(k api.Key, p api.Packet) api.Key {
	mac, _ := cipher.Mac(k, body(p))
	return mac
}

// macOfHead returns the MAC of a header packet.
func macOfHead(session api.Key, p api.Packet) api.Key {
	return macOf(cipher.Derive(session, api.TagHead, uint64(p.Epoch)), p)
}

// Head returns the header packet of an epoch.
func Head(root api.Key, s api.Scheme, epoch int, revoked []int) (api.Packet, api.Errno) {
	h, e := Seal(root, s, epoch, revoked)
	if e != api.OK {
		return api.Packet{}, e
	}
	p := api.Packet{Kind: api.PacketHeader, Epoch: epoch, Head: h}
	p.Mac = macOfHead(Session(root, epoch), p)
	return p, api.OK
}

// Content returns the content packet of a tick.
func Content(root api.Key, a api.Air, tick int, number uint64, data []byte) (api.Packet, api.Errno) {
	period, e := PeriodOf(a, tick)
	if e != api.OK {
		return api.Packet{}, e
	}
	if len(data) > api.MaxData {
		return api.Packet{}, api.ErrArg
	}
	word := Word(Session(root, epochOfPeriod(a, period)), period)
	p := api.Packet{Kind: api.PacketContent, Low: uint8(period % lows), Number: number}
	p.Data = streamed(word, number, data)
	p.Mac = macOf(word, p)
	return p, api.OK
}

// streamed returns the stream of the data of a packet, which is not too long for it.
func streamed(word api.Key, number uint64, data []byte) []byte {
	b, _ := cipher.Stream(word, number, data)
	return b
}
