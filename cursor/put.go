package cursor

import "quipu/api"

// Put8, Put16 and Put32 are a number's bytes, the highest first; PutText a text's.
func Put8(n int) string { return string([]byte{byte(n)}) }

func Put16(n int) string { return Put8(n>>8) + Put8(n) }

func Put32(n int) string { return Put16(n>>16) + Put16(n) }

func PutText(s string) (string, api.Errno) {
	if len(s) > api.MaxString {
		return "", api.ErrCursorLong
	}
	if !Valid(s) {
		return "", api.ErrCursorUTF
	}
	return Put16(len(s)) + s, api.OK
}
