package blind_test

import (
	"testing"

	"mintvault/blind"
)

func TestValid(t *testing.T) {
	for _, key := range keys() {
		for _, secret := range few() {
			holds(t, "L4: Valid", blind.Valid(of(key), secret, times(key, tokenPoint(secret))))
		}
	}
	for _, secret := range secrets() {
		holds(t, "L4: Valid", blind.Valid(of(count(3)), secret, times(count(3), tokenPoint(secret))))
	}
}

func TestValidOfAnother(t *testing.T) {
	for i, key := range keys() {
		signature := times(key, tokenPoint([]byte("a")))
		for j, other := range keys() {
			if i != j && blind.Valid(of(other), []byte("a"), signature) {
				t.Errorf("L4: the signature of key %d is valid for key %d", i, j)
			}
		}
		for _, secret := range secrets() {
			if string(secret) != "a" && blind.Valid(of(key), secret, signature) {
				t.Errorf("L4: the signature of `a` is valid for %x", secret)
			}
		}
		for _, point := range append(points()[:5], nothing(), public(key), opposite(signature)) {
			wrong(t, "L4: another point", blind.Valid(of(key), []byte("a"), point))
		}
	}
}

func TestValidOfEveryBit(t *testing.T) {
	key, secret := ordinary("key"), some(32, "secret")
	signature := times(key, tokenPoint(secret))
	for bit, other := range flips(signature) {
		if blind.Valid(of(key), secret, other) {
			t.Errorf("L4: bit %d of the signature is another", bit)
		}
	}
	for bit, other := range flips(of(key)) {
		if blind.Valid(other, secret, signature) {
			t.Errorf("L4: bit %d of the key is another", bit)
		}
	}
	for bit, other := range flips(secret) {
		if blind.Valid(of(key), other, signature) {
			t.Errorf("L4: bit %d of the secret is another", bit)
		}
	}
}

func TestValidOfOtherLengths(t *testing.T) {
	key, secret := ordinary("key"), some(32, "secret")
	signature := times(key, tokenPoint(secret))
	for _, other := range append(misfits(signature), noPoints()...) {
		wrong(t, "L4: no point", blind.Valid(of(key), secret, other))
	}
	for _, other := range misfits(of(key)) {
		wrong(t, "L4: no key", blind.Valid(other, secret, signature))
	}
	for _, other := range misfits(secret) {
		wrong(t, "L4: another secret", blind.Valid(of(key), other, signature))
	}
	wrong(t, "L4: none of the three", blind.Valid(nil, nil, nil))
	wrong(t, "L4: none of the three", blind.Valid([]byte{}, []byte{}, []byte{}))
}

// Each of these would be right, if the key's number were all that counts.
func TestValidByNone(t *testing.T) {
	for _, secret := range few() {
		for _, key := range noKeys() {
			wrong(t, "L4: no key", blind.Valid(key, secret, times(number(key), tokenPoint(secret))))
			wrong(t, "L4: no key, nothing", blind.Valid(key, secret, nothing()))
			wrong(t, "L4: no key, no signature", blind.Valid(key, secret, nil))
		}
	}
}

// Each of these would be right, if a secret could have any length.
func TestValidOfNoSecrets(t *testing.T) {
	for _, secret := range noSecrets() {
		for _, key := range keys() {
			wrong(t, "L4: no secret", blind.Valid(of(key), secret, times(key, tokenPoint(secret))))
			wrong(t, "L4: no secret, nothing", blind.Valid(of(key), secret, nothing()))
			wrong(t, "L4: no secret, no signature", blind.Valid(of(key), secret, nil))
		}
	}
}
