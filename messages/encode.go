package messages

import (
	"byway/api"
	"byway/nets"
)

// Encode gives a message's bytes.
func Encode(u api.Update) ([]byte, api.Errno) {
	if !valid(u) {
		return nil, api.ErrRoute
	}
	b := putCounted(nil, putNets(nil, u.Gone))
	b = putCounted(b, putAttributes(nil, attributesOf(u)))
	return putNets(b, u.Nets), api.OK
}

// putCounted puts how many bytes part has, and part.
func putCounted(b, part []byte) []byte {
	return append(putPair(b, len(part)), part...)
}

func putAttributes(b []byte, list []attribute) []byte {
	for _, a := range list {
		b = append(b, a.flags, a.kind, byte(len(a.value)))
		b = append(b, a.value...)
	}
	return b
}

func putNets(b []byte, list []api.Net) []byte {
	for _, n := range list {
		b = append(b, byte(n.Len))
		b = append(b, putWord(nil, n.Addr)[:nets.Size(n.Len)]...)
	}
	return b
}
