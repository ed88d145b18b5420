package head

import "muleteer/api"

// room is where a number stands in a head: behind pad bytes, in size bytes.
type room struct{ pad, size int }

func seqRoom(x bool) room {
	if x {
		return room{pad: 1, size: 6}
	}
	return room{pad: 0, size: 3}
}

func ackRoom(x bool) room {
	if x {
		return room{pad: 2, size: 6}
	}
	return room{pad: 1, size: 3}
}

// put appends the lowest size bytes of n to b, the highest byte first.
func put(b []byte, size int, n uint64) []byte {
	for size > 0 {
		size--
		b = append(b, byte(n>>(byteBits*size)))
	}
	return b
}

// putIn appends n with the bytes ahead of it: they are 0, since n is below what its own bytes hold.
func putIn(b []byte, at room, n uint64) []byte {
	return put(b, at.pad+at.size, n)
}

// putNumbers appends Seq, and Ack if h's type has one.
func putNumbers(b []byte, h api.Head) []byte {
	b = putIn(b, seqRoom(h.X), h.Seq)
	if HasAck(h.Type) {
		b = putIn(b, ackRoom(h.X), h.Ack)
	}
	return b
}

// putExtras appends Service, or Code and Info, if h's type has them.
func putExtras(b []byte, h api.Head) []byte {
	if hasService(h.Type) {
		b = put(b, 4, uint64(h.Service))
	}
	if hasCode(h.Type) {
		b = put(b, 1, uint64(h.Code))
		b = append(b, h.Info[:]...)
	}
	return b
}

// reader takes numbers from the beginning of rest, which has bytes enough for them.
type reader struct{ rest string }

// take is the next size bytes as a number, the highest byte first.
func (r *reader) take(size int) uint64 {
	n := uint64(0)
	for i := range size {
		n = n<<byteBits | uint64(r.rest[i])
	}
	r.rest = r.rest[size:]
	return n
}

func (r *reader) takeInt(size int) int {
	return int(r.take(size))
}

// takeFrom leaves out the bytes ahead of the number, which may be anything.
func (r *reader) takeFrom(at room) uint64 {
	r.rest = r.rest[at.pad:]
	return r.take(at.size)
}

// numbers takes Seq, and Ack if h's type has one.
func (r *reader) numbers(h *api.Head) {
	h.Seq = r.takeFrom(seqRoom(h.X))
	if HasAck(h.Type) {
		h.Ack = r.takeFrom(ackRoom(h.X))
	}
}

// extras takes Service, or Code and Info, if h's type has them.
func (r *reader) extras(h *api.Head) {
	if hasService(h.Type) {
		h.Service = uint32(r.take(4))
	}
	if hasCode(h.Type) {
		h.Code = r.takeInt(1)
		for i := range h.Info {
			h.Info[i] = byte(r.take(1))
		}
	}
}
