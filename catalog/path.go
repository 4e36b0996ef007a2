package catalog

import "versions/api"

// IsPath tells whether a text is a path.
func IsPath(s string) bool {
	if len(s) > api.MaxPath {
		return false
	}
	inName := false
	for _, r := range s {
		switch {
		case isNameRune(r):
			inName = true
		case r == '/' && inName:
			inName = false
		default:
			return false
		}
	}
	return inName
}

// isNameRune tells whether a name may have it.
func isNameRune(r rune) bool {
	return r >= 'a' && r <= 'z' || r >= '0' && r <= '9' || r == '.' || r == '-' || r == '_'
}
