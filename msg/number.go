package msg

// A number is written in bytes of seven bits, the lowest ones first; the eighth bit says that another byte follows.
const (
	groupBits   = 7
	follows     = 1 << groupBits
	numberBytes = 4
	maxNumber   = 1<<(groupBits*numberBytes) - 1
)

// appendNumbers: b and the numbers, in as few bytes as they can be; each is 0 to maxNumber.
func appendNumbers(b []byte, numbers ...int) []byte {
	for _, n := range numbers {
		for n >= follows {
			b = append(b, byte(n)|follows)
			n >>= groupBits
		}
		b = append(b, byte(n))
	}
	return b
}
