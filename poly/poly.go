// Package poly is layer 1, sums of bytes (CRC32C): see shared/doc/01-poly.md.
package poly

// halves are the sums of the sixteen half bytes: what four of the eight steps make of each.
func halves() [16]uint32 {
	return [16]uint32{
		0x00000000, 0x105ec76f, 0x20bd8ede, 0x30e349b1,
		0x417b1dbc, 0x5125dad3, 0x61c69362, 0x7198540d,
		0x82f63b78, 0x92a8fc17, 0xa24bb5a6, 0xb21572c9,
		0xc38d26c4, 0xd3d3e1ab, 0xe330a81a, 0xf36e6f75,
	}
}

// Sum is the sum of b.
func Sum(b []byte) uint32 {
	return Over(0, b)
}

// Over goes on from s with each byte of b, in order.
func Over(s uint32, b []byte) uint32 {
	t := halves()
	s = ^s // between two bytes the bits would be turned twice, so they are turned at both ends alone
	for _, x := range b {
		s ^= uint32(x)
		s = s>>4 ^ t[s&15]
		s = s>>4 ^ t[s&15]
	}
	return ^s
}
