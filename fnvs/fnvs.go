// Package fnvs is layer 1: where keys hash to. See shared/doc/01-fnvs.md.
package fnvs

import (
	"nestbox/api"
)

const (
	first  = 14695981039346656037
	prime  = 1099511628211
	spread = 1540483477
)

// sum is a hash that is under way.
type sum uint64

func (s *sum) take(b byte) {
	*s = (*s ^ sum(b)) * prime
}

// Hash of a key. (P1.1)
func Hash(key string) uint64 {
	s := sum(first)
	take := s.take
	for i := range len(key) {
		take(key[i])
	}
	return uint64(s)
}

// Tag of a hash. (P1.1)
func Tag(h uint64) int {
	// 0 is how a free slot is told, so that it is no tag.
	return max(1, int(h>>56))
}

// Size of a table. (P1.2)
func Size(bits int) int {
	if bits < api.MinBits || bits > api.MaxBits {
		return 0
	}
	return 1 << bits
}

// Bucket of a hash. (P1.2)
func Bucket(h uint64, bits int) int {
	size := Size(bits)
	if size == 0 {
		return -1
	}
	return int(h % uint64(size))
}

// Other bucket, by a tag. (P1.2)
func Other(bucket, tag, bits int) int {
	size := Size(bits)
	if bucket < 0 || bucket >= size || tag < 1 || tag > 255 {
		return -1
	}
	return bucket ^ (tag * spread % size)
}

// Stripe of a place. (P1.3)
func Stripe(p api.Place) int {
	if p.Bucket < 0 || p.Bucket >= Size(p.Bits) {
		return -1
	}
	return (p.Bucket + 31*p.Bits) % api.Stripes
}
