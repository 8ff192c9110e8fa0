package block

const polynomial = 0xEDB88320

// Sum is the CRC-32 of bytes.
func Sum(s string) uint32 {
	register := ^uint32(0)
	for i := range len(s) {
		register = stepped(register ^ uint32(s[i]))
	}
	return ^register
}

// stepped goes down by a byte's eight places. The byte's bits are in the register already: each one meets the register's own just when it is the lowest.
func stepped(register uint32) uint32 {
	for range 8 {
		lowest := register & 1
		register = register>>1 ^ polynomial*lowest
	}
	return register
}
