package epoch

import (
	"slices"

	"headend/api"
)

// isAhead reports whether a clock may be ahead as many ticks.
func isAhead(a api.Air, ahead int) bool { return ahead >= -a.Drift && ahead <= a.Drift }

// slotOf returns the index of the slot of an epoch.
func slotOf(epoch int) int { return epoch % 2 }

// checkBoth returns CheckScheme's error, and then CheckAir's.
func checkBoth(s api.Scheme, a api.Air) api.Errno {
	if e := CheckScheme(s); e != api.OK {
		return e
	}
	return CheckAir(a)
}

// New returns a receiver with empty slots.
func New(root api.Key, s api.Scheme, a api.Air, receiver, ahead int) (api.Receiver, api.Errno) {
	if e := checkBoth(s, a); e != api.OK {
		return api.Receiver{}, e
	}
	if !isAhead(a, ahead) {
		return api.Receiver{}, api.ErrArg
	}
	secret, e := Secret(root, s, receiver)
	if e != api.OK {
		return api.Receiver{}, e
	}
	return api.Receiver{Secret: secret, Ahead: ahead}, api.OK
}

// Check returns ErrBad unless a receiver is valid.
func Check(s api.Scheme, a api.Air, r api.Receiver) api.Errno {
	if e := checkBoth(s, a); e != api.OK {
		return e
	}
	u := r.Secret.Receiver
	if !isAhead(a, r.Ahead) || u < 0 || u >= 1<<s.Depth {
		return api.ErrBad
	}
	for i, slot := range r.Slots {
		if slot != (api.Slot{}) && !isFull(slot, i) {
			return api.ErrBad
		}
	}
	return api.OK
}

// isFull reports whether the slot with some index is full.
func isFull(slot api.Slot, i int) bool {
	return slot.Full && isEpoch(slot.Epoch) && slotOf(slot.Epoch) == i
}

// Take returns the receiver after it takes a packet, and the data of a content packet.
func Take(s api.Scheme, a api.Air, r api.Receiver, p api.Packet, tick int) (api.Receiver, []byte, api.Errno) {
	if e := checkTaking(s, a, r, p, tick); e != api.OK {
		return api.Receiver{}, nil, e
	}
	take := takeContent
	if p.Kind == api.PacketHeader {
		take = takeHead
	}
	slots, data, e := take(s, a, r, p, tick+r.Ahead)
	if e != api.OK {
		return api.Receiver{}, nil, e
	}
	r.Slots = slots
	r.Secret.Labels = slices.Clone(r.Secret.Labels)
	return r, data, api.OK
}

// checkTaking returns the errors that Take has for packets of both kinds.
func checkTaking(s api.Scheme, a api.Air, r api.Receiver, p api.Packet, tick int) api.Errno {
	if e := Check(s, a, r); e != api.OK {
		return e
	}
	if e := CheckPacket(p); e != api.OK {
		return e
	}
	return checkTick(a, tick)
}

// takeHead returns the slots of a receiver after it takes a header packet.
func takeHead(s api.Scheme, a api.Air, r api.Receiver, p api.Packet, local int) ([2]api.Slot, []byte, api.Errno) {
	// The arguments have been checked, so that the only question is whether it is in time.
	in, _ := InTime(a, local, p.Epoch)
	slot := &r.Slots[slotOf(p.Epoch)]
	switch {
	case !in:
		return r.Slots, nil, api.ErrTime
	case slot.Full && slot.Epoch >= p.Epoch:
		return r.Slots, nil, api.ErrOld
	}
	session, e := Open(s, r.Secret, p.Head)
	if e != api.OK {
		return r.Slots, nil, e
	}
	if macOfHead(session, p) != p.Mac {
		return r.Slots, nil, api.ErrCheck
	}
	*slot = api.Slot{Full: true, Epoch: p.Epoch, Key: session}
	return r.Slots, nil, api.OK
}

// takeContent returns the slots of a receiver, and the data of a content packet that it takes.
func takeContent(_ api.Scheme, a api.Air, r api.Receiver, p api.Packet, local int) ([2]api.Slot, []byte, api.Errno) {
	period, e := Resolve(a, local, p.Low)
	if e != api.OK {
		return r.Slots, nil, e
	}
	epoch := epochOfPeriod(a, period)
	slot := r.Slots[slotOf(epoch)]
	if slot != (api.Slot{Full: true, Epoch: epoch, Key: slot.Key}) {
		return r.Slots, nil, api.ErrNone
	}
	word := Word(slot.Key, period)
	if macOf(word, p) != p.Mac {
		return r.Slots, nil, api.ErrCheck
	}
	return r.Slots, streamed(word, p.Number, p.Data), api.OK
}
